/-
  Layer 12: the law's comparison: a store that tells what rows tell meets it.
-/
import Derived.Test.YtlembfhdljmcoaaDoorMb5
import Derived.Test.YtlembfhdljmcoaaDoorMb4
import Derived.Maps.RangeWalk
import Derived.Maps.OwnSet
import Derived.Maps.OwnOps
import Derived.WideKeyEntry
set_option linter.unusedSimpArgs false
set_option linter.unusedVariables false
namespace Go.Proofs.YtlembfhdljmcoaaDoor
set_option maxRecDepth 20000
open Go.RowKit

namespace Bd
open Rf Sm
theorem cel_on {w1 w2 : World} (hb : Below w1.heap.size w1 w2) {b o : Nat} {v : Value} (hc : w1.cell? ⟨b, o, none⟩ = some v) : w2.cell? ⟨b, o, none⟩ = some v :=
  (hb.cell (p := ⟨b, o, none⟩) (World.block_lt_of_cell? w1 _ hc)).trans hc
theorem mem_getI {E : List Int} {j : Nat} (h : j < E.length) : E.getD j 0 ∈ E := by
  rw [List.getD_eq_getElem?_getD, List.getElem?_eq_getElem h]
  exact List.getElem_mem _
theorem rise_at {E : List Int} (h : E.Pairwise (· < ·)) {i j : Nat} (hij : i < j) (hj : j < E.length) : E.getD i 0 < E.getD j 0 := by
  have := List.pairwise_iff_getElem.1 h i j (by omega) hj hij
  simpa [List.getD, hj, (by omega : i < E.length)] using this
theorem size_nil {s : ByteArray} (h : s.size = 0) : s = eB := by
  obtain ⟨d⟩ := s
  have : d = #[] := Array.size_eq_zero_iff.1 h
  rw [this]
theorem nil_list : eB.toList = [] := by kernel_rfl
theorem list_ne {s : ByteArray} (h : 0 < s.size) : s.toList ≠ [] := fun e => by
  rw [ByteArray.toList_eq] at e
  have : s.data.size = 0 := by rw [← Array.length_toList, e]; rfl
  have h' : s.data.size = s.size := rfl
  omega
def hasI (E : List Int) (e : Int) : Bool := E.any fun x => decide (x = e)
theorem hasI_step {E : List Int} {e : Int} {k : Nat} (h : k < E.length) : hasI (E.take (k + 1)) e = (hasI (E.take k) e || decide (E.getD k 0 = e)) := by
  have h' : E.getD k 0 = E[k] := by simp [List.getD, h]
  unfold hasI
  rw [List.take_succ_eq_append_getElem h, List.any_append, h']
  simp
theorem hasI_mem {E : List Int} {e : Int} (h : e ∈ E) : hasI E e = true := by simp [hasI, h]
theorem mem_getD {T : List ByteArray} {j : Nat} (h : j < T.length) : T.getD j eB ∈ T := by
  rw [List.getD_eq_getElem?_getD, List.getElem?_eq_getElem h]
  exact List.getElem_mem _
set_option maxHeartbeats 16000000 in
theorem same_any (p : Option Addr) (J : World → Prop) (l : List Rw) (a : Option Addr) (n c : Nat) (ask : ByteArray) (w : World) (R : Reads p J l) (hJ : J w) (h : IsRw w a n c l) (hn : n ≤ 100) (hs : ∀ x ∈ l, x.s.size ≤ 200) (ha : ask.size ≤ 100) :
    Calls Tryd.prog 17 #[.pointer p, .slice a n c, .string ask] w fun e w' => e = .returned (.bool true) ∧ Below w.heap.size w w' := by
  have hm := h.2.1
  have hnc := h.1
  have hl := h.len
  unfold maxLen at hm
  have HJb : Hid (∀ w', Below w.heap.size w w' → J w') := Lib.hid fun w' hb => R.below w w' hJ hb
  have HT := Lib.hid (rtexts_any l a n c w h (by omega))
  have H := Lib.hid h
  have HL := Lib.hid hl
  have HR := Lib.hid R
  have hts : ∀ t ∈ textsR l, t.size ≤ 200 := fun t ht => by
    obtain ⟨x, hx, rfl⟩ := mem_texts.1 ht
    exact hs x hx
  have HTS := Lib.hid hts
  have htl : (textsR l).length ≤ n := by
    have := texts_len l l.length (Nat.le_refl _)
    rw [List.take_of_length_le (Nat.le_refl _)] at this
    omega
  clear h hl R hJ hts hs
  obtain ⟨T, hT⟩ : ∃ T, textsR l = T := ⟨_, rfl⟩
  have HTe := Lib.hid hT
  rw [hT] at HT HTS htl
  clear hT
  go_enter Tryd.func17, Tryd.ntmps17
  go_wp2_with fail
  refine HT.out.mono ?_
  rintro e w1 ⟨ta, tc, rfl, hI, hb1⟩
  have HI := Lib.hid hI
  have HB1 := Lib.hid hb1
  have htm := hI.2.1
  have htc := hI.1
  unfold maxLen at htm
  clear hI hb1 HT
  obtain ⟨m, hm'⟩ : ∃ m, T.length = m := ⟨_, rfl⟩
  have HM := Lib.hid hm'
  rw [hm'] at HI htl htc ⊢
  clear hm'
  go_wp2
  go_loopw [8, 9] (fun s i wr => ∃ j : Nat, j ≤ m ∧ i = .int .i64 j ∧ s = .int .i64 (sizeT (T.take j)) ∧ Hid (Below w.heap.size w wr) ∧ Hid (Below w1.heap.size w1 wr)) (fun _ i _ => m - (intOf i).toNat)
  case atStart => exact ⟨0, Nat.zero_le _, rfl, rfl, HB1, Lib.hid (Below.refl _ _)⟩
  case round =>
    obtain ⟨j, hj, rfl, rfl, HB, HC⟩ := hrel
    by_cases hlt : j < m
    · obtain ⟨b, off, rfl, hblt, ct⟩ := (HI.out.below HC.out).at' j hlt
      have hjT : j < T.length := by rw [HM.out]; exact hlt
      have HS := Lib.hid (sizeT_step hjT)
      have HSl := Lib.hid (sizeT_le HTS.out j)
      have HMem := Lib.hid (mem_getD hjT)
      have hts := HTS.out _ HMem.out
      clear hjT
      obtain ⟨t, ht⟩ : ∃ t, T.getD j eB = t := ⟨_, rfl⟩
      obtain ⟨z, hz⟩ : ∃ z, sizeT (T.take j) = z := ⟨_, rfl⟩
      rw [ht] at ct HS HMem hts
      rw [hz] at HS HSl ⊢
      clear ht hz
      have hzl := HSl.out
      have hw1 : IntKind.i64.wrap ((z : Int) + (t.size : Int)) = ((z + t.size : Nat) : Int) := by simp only [IntKind.wrap_i64, wrap64]; omega
      have HSum := Lib.hid (rsumT t (by omega) wr)
      go_wp2_with fail
      refine HSum.out.mono ?_
      rintro e w2 ⟨rfl, hb2⟩
      have HB2 := Lib.hid (below_step' HB.out hb2)
      have HG := Lib.hid (HR.out.get w2 (HJb.out w2 HB2.out) t (by rw [HTe.out]; exact HMem.out))
      have c2 := (Below.cell (p := ⟨b, off + j, none⟩) hb2 hblt).trans ct
      have HL2 : Hid (b < w2.heap.size) := Lib.hid (Nat.lt_of_lt_of_le hblt hb2.size)
      have HC2 := Lib.hid (below_step' HC.out hb2)
      clear hb2 HSum HB HC ct
      go_wp2_with fail
      refine HG.out.mono ?_
      rintro e w3 ⟨rfl, hb3⟩
      have HB3 := Lib.hid (below_step' HB2.out hb3)
      have c3 := (Below.cell (p := ⟨b, off + j, none⟩) hb3 HL2.out).trans c2
      have HL3 : Hid (b < w3.heap.size) := Lib.hid (Nat.lt_of_lt_of_le HL2.out hb3.size)
      have HC3 := Lib.hid (below_step' HC2.out hb3)
      have HOf := Lib.hid (rofT t (by omega) w3)
      clear hb3 HG HB2 HC2 HL2 c2
      go_wp2_with fail
      refine HOf.out.mono ?_
      rintro e w4 ⟨rfl, hb4⟩
      have HB4 := Lib.hid (below_step' HB3.out hb4)
      have c4 := (Below.cell (p := ⟨b, off + j, none⟩) hb4 HL3.out).trans c3
      have HL4 : Hid (b < w4.heap.size) := Lib.hid (Nat.lt_of_lt_of_le HL3.out hb4.size)
      have HC4 := Lib.hid (below_step' HC3.out hb4)
      have HF := Lib.hid (HR.out.find w4 (HJb.out w4 HB4.out) t (by rw [HTe.out]; exact HMem.out))
      clear hb4 HOf HB3 HC3 HL3 c3
      go_wp2_with fail
      refine HF.out.mono ?_
      rintro e w5 ⟨rfl, hb5⟩
      have HB5 := Lib.hid (below_step' HB4.out hb5)
      have c5 := (Below.cell (p := ⟨b, off + j, none⟩) hb5 HL4.out).trans c4
      have HC5 := Lib.hid (below_step' HC4.out hb5)
      clear hb5 HF HB4 HC4 HL4 c4
      have q1 : (t.toList != t.toList) = false := by simp
      go_wp2_with fail
      go_roundw
      case rel => exact ⟨j + 1, by omega, by go_num, by rw [HS.out, Int.natCast_add], HB5, HC5⟩
      case measure => simp [intOf]; omega
    · obtain rfl : j = m := by omega
      have hTt : T.take j = T := List.take_of_length_le (by rw [HM.out]; exact Nat.le_refl _)
      rw [hTt]
      clear hTt
      obtain ⟨wo, rfl⟩ : ∃ wo, wo = wr := ⟨_, rfl⟩
      have hSz := HR.out.size wo (HJb.out wo HB.out)
      rw [HTe.out, HM.out] at hSz
      have HSz := Lib.hid hSz
      clear hSz
      have hzl : sizeT T ≤ 200 * j := by
        have := sizeT_le HTS.out T.length
        rw [List.take_of_length_le (Nat.le_refl _), HM.out] at this
        exact this
      obtain ⟨z, hz⟩ : ∃ z, sizeT T = z := ⟨_, rfl⟩
      rw [hz] at HSz hzl ⊢
      clear hz
      go_wp2_with fail
      refine HSz.out.mono ?_
      rintro e w6 ⟨rfl, hb6⟩
      have HB6 := Lib.hid (below_step' HB.out hb6)
      have HC6 := Lib.hid (below_step' HC.out hb6)
      have HEp := Lib.hid (HR.out.epochs w6 (HJb.out w6 HB6.out))
      clear hb6 HSz HB HC
      go_wp2_with fail
      refine HEp.out.mono ?_
      rintro e w7 ⟨ea, en, ec, E, rfl, hE, hb7, hP, hME⟩
      have HB7 := Lib.hid (below_step' HB6.out hb7)
      have HC7 := Lib.hid (below_step' HC6.out hb7)
      have HE := Lib.hid hE
      have HP := Lib.hid hP
      have HME := Lib.hid hME
      have hec := hE.1
      have hem := hE.2.1
      have HEl := Lib.hid hE.len
      unfold maxLen at hem
      clear hE hb7 hP hME HEp HB6 HC6
      go_wp2
      go_loopw [17] (fun i wr => ∃ k : Nat, k ≤ en ∧ i = .int .i64 k ∧ Hid (Below w.heap.size w wr) ∧ Hid (Below w7.heap.size w7 wr)) (fun i _ => en - (intOf i).toNat)
      case atStart => exact ⟨0, Nat.zero_le _, rfl, HB7, Lib.hid (Below.refl _ _)⟩
      case round =>
        obtain ⟨k, hk, rfl, HB, HC⟩ := hrel
        by_cases hlt : k < en
        · obtain ⟨be, oe, rfl, hblt, ce⟩ := (HE.out.below HC.out).at' k hlt
          have hkE : k < E.length := by rw [HEl.out]; exact hlt
          have hmem := (HME.out _).1 (mem_getI hkE)
          have hDne : (dropR l (E.getD k 0)).length ≠ n := fun e => by
            obtain ⟨r, hr, he⟩ := hmem
            exact drop_same.1 (e.trans HL.out.symm) r hr he
          have HDr : Hid (∀ w', Below wr.heap.size wr w' → Calls Tryd.prog 10 #[.slice a n c, .int .i64 (E.getD k 0)] w' fun e w'' => ∃ a9 c9, e = .returned (.slice a9 (dropR l (E.getD k 0)).length c9) ∧ Below w'.heap.size w' w'') := Lib.hid fun w' hb =>
            (rdrop_any l a n c (E.getD k 0) w' (H.out.below (below_step' HB.out hb)) (by omega)).mono fun e w'' ⟨a9, c9, h1, _, h2, _⟩ => ⟨a9, c9, h1, h2⟩
          have HRi := Lib.hid (fun (q : Nat) (hq : q < k) => rise_at HP.out hq hkE)
          obtain ⟨D, hD⟩ : ∃ D, (dropR l (E.getD k 0)).length = D := ⟨_, rfl⟩
          obtain ⟨x, hx⟩ : ∃ x, E.getD k 0 = x := ⟨_, rfl⟩
          rw [hD] at hDne HDr
          rw [hx] at HDr ce HRi
          have hD1 : ((D : Int) == (n : Int)) = false := by simp; omega
          have hD2 : decide ((D : Int) = (n : Int)) = false := decide_eq_false (by omega)
          clear hD hx hmem hkE hDne
          by_cases hk0 : k = 0
          · have hk1 : decide ((k : Int) > 0) = false := decide_eq_false (by omega)
            have hk2 : decide ((0 : Int) < (k : Int)) = false := decide_eq_false (by omega)
            have hk5 : decide (0 < k) = false := decide_eq_false (by omega)
            clear hk0
            go_wp2
            refine wp_region_noPanic ?_
            refine wp_region_held_drew (S := fun w' => Below wr.heap.size wr w') (by kernel_rfl) ((below_drewN (Below.refl _ _) 1)) (fun hHeld => ?_)
            refine Rg.takeL (i := 0) (v := ?_) rfl (by kernel_rfl) (by kernel_rfl) (by kernel_rfl) (fun _ _ _ h => h) (Or.inl ⟨by rfl, ?_⟩) (by assumption) ?_
            rotate_left
            · (intro wz hSw; (try dsimp only at hSw); go_simp <;> with_reducible rfl)
            try simp only [Act.put, List.setIfInBounds_toArray, List.set_cons_zero, List.set_cons_succ]
            refine Rg.takeL (i := 1) (v := ?_) rfl (by kernel_rfl) (by kernel_rfl) (by kernel_rfl) (fun _ _ _ h => h) (Or.inl ⟨by rfl, ?_⟩) (by assumption) ?_
            rotate_left
            · (intro wz hSw; (try dsimp only at hSw); go_simp <;> with_reducible rfl)
            try simp only [Act.put, List.setIfInBounds_toArray, List.set_cons_zero, List.set_cons_succ]
            refine Rg.takeL (i := 2) (v := ?_) rfl (by kernel_rfl) (by kernel_rfl) (by kernel_rfl) (fun _ _ _ h => h) (Or.inl ⟨by rfl, ?_⟩) (by assumption) ?_
            rotate_left
            · (intro wz hSw; (try dsimp only at hSw); go_simp <;> with_reducible rfl)
            try simp only [Act.put, List.setIfInBounds_toArray, List.set_cons_zero, List.set_cons_succ]
            refine Rg.takeL (i := 3) (v := ?_) rfl (by kernel_rfl) (by kernel_rfl) (by kernel_rfl) (fun _ _ _ h => h) (Or.inl ⟨by rfl, ?_⟩) (by assumption) ?_
            rotate_left
            · (intro wz hSw; (have q0 := hlt; have q00 := hec; go_simp <;> with_reducible rfl))
            try simp only [Act.put, List.setIfInBounds_toArray, List.set_cons_zero, List.set_cons_succ]
            refine Rg.takeL (i := 4) (v := ?_) rfl (by kernel_rfl) (by kernel_rfl) (by kernel_rfl) (fun _ _ _ h => h) (Or.inl ⟨by rfl, ?_⟩) (by assumption) ?_
            rotate_left
            · (intro wz hSw; (have q0 := cel_on hSw ce; go_simp <;> with_reducible rfl))
            try simp only [Act.put, List.setIfInBounds_toArray, List.set_cons_zero, List.set_cons_succ]
            refine Rg.takeL (i := 7) (v := ?_) rfl (by kernel_rfl) (by kernel_rfl) (by kernel_rfl) (fun _ _ _ h => h) (Or.inl ⟨by rfl, ?_⟩) (by assumption) ?_
            rotate_left
            · (intro wz hSw; (try dsimp only at hSw); go_simp <;> with_reducible rfl)
            try simp only [Act.put, List.setIfInBounds_toArray, List.set_cons_zero, List.set_cons_succ]
            refine Rg.takeL (i := 8) (v := ?_) rfl (by kernel_rfl) (by kernel_rfl) (by kernel_rfl) (fun _ _ _ h => h) (Or.inl ⟨by rfl, ?_⟩) (by assumption) ?_
            rotate_left
            · (intro wz hSw; (try dsimp only at hSw); go_simp <;> with_reducible rfl)
            try simp only [Act.put, List.setIfInBounds_toArray, List.set_cons_zero, List.set_cons_succ]
            refine wpAnyH_ready (rs := [5]) (by kernel_rfl) (by simp) ?_
            refine Rg.readyL (i := 5) rfl (fun K hK => ?_)
            go_simp
            go_at_call 10
            (with_reducible refine (HDr.out _ hHeld).mono ?_)
            rintro e w9 ⟨a9, c9, rfl, hb9⟩
            have HB9 := Lib.hid (below_step' hHeld hb9)
            clear hb9
            refine hK.out _ _ ?_ (fun hHeld => ?_)
            · exact HB9.out
            clear hK K
            try simp only [Act.put, List.setIfInBounds_toArray, List.set_cons_zero, List.set_cons_succ]
            refine Rg.takeL (i := 6) (v := ?_) rfl (by kernel_rfl) (by kernel_rfl) (by kernel_rfl) (fun _ _ _ h => h) (Or.inl ⟨by rfl, ?_⟩) (by assumption) ?_
            rotate_left
            · (intro wz hSw; (try dsimp only at hSw); go_simp <;> with_reducible rfl)
            try simp only [Act.put, List.setIfInBounds_toArray, List.set_cons_zero, List.set_cons_succ]
            refine Rg.takeL (i := 9) (v := ?_) rfl (by kernel_rfl) (by kernel_rfl) (by kernel_rfl) (fun _ _ _ h => h) (Or.inl ⟨by rfl, ?_⟩) (by assumption) ?_
            rotate_left
            · (intro wz hSw; (have q0 := hD1; have q1 := hD2; go_simp <;> with_reducible rfl))
            try simp only [Act.put, List.setIfInBounds_toArray, List.set_cons_zero, List.set_cons_succ]
            refine Rg.takeL (i := 10) (v := ?_) rfl (by kernel_rfl) (by kernel_rfl) (by kernel_rfl) (fun _ _ _ h => h) (Or.inl ⟨by rfl, ?_⟩) (by assumption) ?_
            rotate_left
            · (intro wz hSw; (try dsimp only at hSw); go_simp <;> with_reducible rfl)
            try simp only [Act.put, List.setIfInBounds_toArray, List.set_cons_zero, List.set_cons_succ]
            refine Rg.takeL (i := 11) (v := ?_) rfl (by kernel_rfl) (by kernel_rfl) (by kernel_rfl) (fun _ _ _ h => h) (Or.inl ⟨by rfl, ?_⟩) (by assumption) ?_
            rotate_left
            · (intro wz hSw; (try dsimp only at hSw); go_simp <;> with_reducible rfl)
            try simp only [Act.put, List.setIfInBounds_toArray, List.set_cons_zero, List.set_cons_succ]
            refine Rg.takeL (i := 12) (v := ?_) rfl (by kernel_rfl) (by kernel_rfl) (by kernel_rfl) (fun _ _ _ h => h) (Or.inl ⟨by rfl, ?_⟩) (by assumption) ?_
            rotate_left
            · (intro wz hSw; (have q0 := hk1; have q1 := hk2; have q2 := hk5; go_simp <;> with_reducible rfl))
            try simp only [Act.put, List.setIfInBounds_toArray, List.set_cons_zero, List.set_cons_succ]
            refine Rg.takeL (i := 13) (v := ?_) rfl (by kernel_rfl) (by kernel_rfl) (by kernel_rfl) (fun _ _ _ h => h) (Or.inl ⟨by rfl, ?_⟩) (by assumption) ?_
            rotate_left
            · (intro wz hSw; (try dsimp only at hSw); go_simp <;> with_reducible rfl)
            try simp only [Act.put, List.setIfInBounds_toArray, List.set_cons_zero, List.set_cons_succ]
            refine Rg.takeL (i := 14) (v := undef) rfl (by kernel_rfl) (by kernel_rfl) (by kernel_rfl) (fun _ _ _ h => h) (Or.inr ⟨by rfl, rfl⟩) (by assumption) ?_
            try simp only [Act.put, List.setIfInBounds_toArray, List.set_cons_zero, List.set_cons_succ]
            refine Rg.takeL (i := 15) (v := undef) rfl (by kernel_rfl) (by kernel_rfl) (by kernel_rfl) (fun _ _ _ h => h) (Or.inr ⟨by rfl, rfl⟩) (by assumption) ?_
            try simp only [Act.put, List.setIfInBounds_toArray, List.set_cons_zero, List.set_cons_succ]
            refine Rg.takeL (i := 16) (v := undef) rfl (by kernel_rfl) (by kernel_rfl) (by kernel_rfl) (fun _ _ _ h => h) (Or.inr ⟨by rfl, rfl⟩) (by assumption) ?_
            try simp only [Act.put, List.setIfInBounds_toArray, List.set_cons_zero, List.set_cons_succ]
            refine Rg.takeL (i := 17) (v := undef) rfl (by kernel_rfl) (by kernel_rfl) (by kernel_rfl) (fun _ _ _ h => h) (Or.inr ⟨by rfl, rfl⟩) (by assumption) ?_
            try simp only [Act.put, List.setIfInBounds_toArray, List.set_cons_zero, List.set_cons_succ]
            refine Rg.takeL (i := 18) (v := undef) rfl (by kernel_rfl) (by kernel_rfl) (by kernel_rfl) (fun _ _ _ h => h) (Or.inr ⟨by rfl, rfl⟩) (by assumption) ?_
            try simp only [Act.put, List.setIfInBounds_toArray, List.set_cons_zero, List.set_cons_succ]
            refine Rg.takeL (i := 19) (v := undef) rfl (by kernel_rfl) (by kernel_rfl) (by kernel_rfl) (fun _ _ _ h => h) (Or.inr ⟨by rfl, rfl⟩) (by assumption) ?_
            try simp only [Act.put, List.setIfInBounds_toArray, List.set_cons_zero, List.set_cons_succ]
            refine Rg.takeL (i := 20) (v := undef) rfl (by kernel_rfl) (by kernel_rfl) (by kernel_rfl) (fun _ _ _ h => h) (Or.inr ⟨by rfl, rfl⟩) (by assumption) ?_
            try simp only [Act.put, List.setIfInBounds_toArray, List.set_cons_zero, List.set_cons_succ]
            refine Rg.takeL (i := 21) (v := undef) rfl (by kernel_rfl) (by kernel_rfl) (by kernel_rfl) (fun _ _ _ h => h) (Or.inr ⟨by rfl, rfl⟩) (by assumption) ?_
            try simp only [Act.put, List.setIfInBounds_toArray, List.set_cons_zero, List.set_cons_succ]
            refine Rg.takeL (i := 22) (v := undef) rfl (by kernel_rfl) (by kernel_rfl) (by kernel_rfl) (fun _ _ _ h => h) (Or.inr ⟨by rfl, rfl⟩) (by assumption) ?_
            try simp only [Act.put, List.setIfInBounds_toArray, List.set_cons_zero, List.set_cons_succ]
            refine Rg.takeL (i := 23) (v := undef) rfl (by kernel_rfl) (by kernel_rfl) (by kernel_rfl) (fun _ _ _ h => h) (Or.inr ⟨by rfl, rfl⟩) (by assumption) ?_
            try simp only [Act.put, List.setIfInBounds_toArray, List.set_cons_zero, List.set_cons_succ]
            refine Rg.takeL (i := 24) (v := ?_) rfl (by kernel_rfl) (by kernel_rfl) (by kernel_rfl) (fun _ _ _ h => h) (Or.inl ⟨by rfl, ?_⟩) (by assumption) ?_
            rotate_left
            · (intro wz hSw; (try dsimp only at hSw); go_simp <;> with_reducible rfl)
            try simp only [Act.put, List.setIfInBounds_toArray, List.set_cons_zero, List.set_cons_succ]
            refine Rg.takeL (i := 25) (v := ?_) rfl (by kernel_rfl) (by kernel_rfl) (by kernel_rfl) (fun _ _ _ h => h) (Or.inl ⟨by rfl, ?_⟩) (by assumption) ?_
            rotate_left
            · (intro wz hSw; (try dsimp only at hSw); go_simp <;> with_reducible rfl)
            try simp only [Act.put, List.setIfInBounds_toArray, List.set_cons_zero, List.set_cons_succ]
            refine wpAnyH_done (by kernel_rfl) ?_ _
            refine NoPanic.normal ?_
            have HBr := Lib.hid hHeld
            clear hHeld
            go_wp2
            go_roundw
            case rel => exact ⟨k + 1, by omega, by go_num, Lib.hid (below_step' HB.out HBr.out), Lib.hid (below_step' HC.out HBr.out)⟩
            case measure => simp [intOf]; omega
          · have hk1 : decide ((k : Int) > 0) = true := decide_eq_true (by omega)
            have hk2 : decide ((0 : Int) < (k : Int)) = true := decide_eq_true (by omega)
            have hk5 : decide (0 < k) = true := decide_eq_true (by omega)
            have hk6 : 0 < k := by omega
            obtain ⟨k1, hkk⟩ : ∃ k1, k = k1 + 1 := ⟨k - 1, by omega⟩
            have hk3 : IntKind.i64.wrap ((k : Int) - 1) = (k1 : Int) := by simp only [IntKind.wrap_i64, wrap64]; omega
            have hk4 : k1 < en := by omega
            obtain ⟨be', oe', he', _, cf⟩ := (HE.out.below HC.out).at' k1 hk4
            injection he' with he'
            injection he' with he1 he2
            subst he1 he2
            have hy := HRi.out k1 (by omega)
            obtain ⟨y, hye⟩ : ∃ y, E.getD k1 0 = y := ⟨_, rfl⟩
            rw [hye] at cf hy
            have hx1 : decide (x ≤ y) = false := decide_eq_false (by omega)
            clear hk0 hye hkk hy
            go_wp2
            refine wp_region_noPanic ?_
            refine wp_region_held_drew (S := fun w' => Below wr.heap.size wr w') (by kernel_rfl) ((below_drewN (Below.refl _ _) 1)) (fun hHeld => ?_)
            refine Rg.takeL (i := 0) (v := ?_) rfl (by kernel_rfl) (by kernel_rfl) (by kernel_rfl) (fun _ _ _ h => h) (Or.inl ⟨by rfl, ?_⟩) (by assumption) ?_
            rotate_left
            · (intro wz hSw; (try dsimp only at hSw); go_simp <;> with_reducible rfl)
            try simp only [Act.put, List.setIfInBounds_toArray, List.set_cons_zero, List.set_cons_succ]
            refine Rg.takeL (i := 1) (v := ?_) rfl (by kernel_rfl) (by kernel_rfl) (by kernel_rfl) (fun _ _ _ h => h) (Or.inl ⟨by rfl, ?_⟩) (by assumption) ?_
            rotate_left
            · (intro wz hSw; (try dsimp only at hSw); go_simp <;> with_reducible rfl)
            try simp only [Act.put, List.setIfInBounds_toArray, List.set_cons_zero, List.set_cons_succ]
            refine Rg.takeL (i := 2) (v := ?_) rfl (by kernel_rfl) (by kernel_rfl) (by kernel_rfl) (fun _ _ _ h => h) (Or.inl ⟨by rfl, ?_⟩) (by assumption) ?_
            rotate_left
            · (intro wz hSw; (try dsimp only at hSw); go_simp <;> with_reducible rfl)
            try simp only [Act.put, List.setIfInBounds_toArray, List.set_cons_zero, List.set_cons_succ]
            refine Rg.takeL (i := 3) (v := ?_) rfl (by kernel_rfl) (by kernel_rfl) (by kernel_rfl) (fun _ _ _ h => h) (Or.inl ⟨by rfl, ?_⟩) (by assumption) ?_
            rotate_left
            · (intro wz hSw; (have q0 := hlt; have q00 := hec; go_simp <;> with_reducible rfl))
            try simp only [Act.put, List.setIfInBounds_toArray, List.set_cons_zero, List.set_cons_succ]
            refine Rg.takeL (i := 4) (v := ?_) rfl (by kernel_rfl) (by kernel_rfl) (by kernel_rfl) (fun _ _ _ h => h) (Or.inl ⟨by rfl, ?_⟩) (by assumption) ?_
            rotate_left
            · (intro wz hSw; (have q0 := cel_on hSw ce; go_simp <;> with_reducible rfl))
            try simp only [Act.put, List.setIfInBounds_toArray, List.set_cons_zero, List.set_cons_succ]
            refine Rg.takeL (i := 7) (v := ?_) rfl (by kernel_rfl) (by kernel_rfl) (by kernel_rfl) (fun _ _ _ h => h) (Or.inl ⟨by rfl, ?_⟩) (by assumption) ?_
            rotate_left
            · (intro wz hSw; (try dsimp only at hSw); go_simp <;> with_reducible rfl)
            try simp only [Act.put, List.setIfInBounds_toArray, List.set_cons_zero, List.set_cons_succ]
            refine Rg.takeL (i := 8) (v := ?_) rfl (by kernel_rfl) (by kernel_rfl) (by kernel_rfl) (fun _ _ _ h => h) (Or.inl ⟨by rfl, ?_⟩) (by assumption) ?_
            rotate_left
            · (intro wz hSw; (try dsimp only at hSw); go_simp <;> with_reducible rfl)
            try simp only [Act.put, List.setIfInBounds_toArray, List.set_cons_zero, List.set_cons_succ]
            refine wpAnyH_ready (rs := [5]) (by kernel_rfl) (by simp) ?_
            refine Rg.readyL (i := 5) rfl (fun K hK => ?_)
            go_simp
            go_at_call 10
            (with_reducible refine (HDr.out _ hHeld).mono ?_)
            rintro e w9 ⟨a9, c9, rfl, hb9⟩
            have HB9 := Lib.hid (below_step' hHeld hb9)
            clear hb9
            refine hK.out _ _ ?_ (fun hHeld => ?_)
            · exact HB9.out
            clear hK K
            try simp only [Act.put, List.setIfInBounds_toArray, List.set_cons_zero, List.set_cons_succ]
            refine Rg.takeL (i := 6) (v := ?_) rfl (by kernel_rfl) (by kernel_rfl) (by kernel_rfl) (fun _ _ _ h => h) (Or.inl ⟨by rfl, ?_⟩) (by assumption) ?_
            rotate_left
            · (intro wz hSw; (try dsimp only at hSw); go_simp <;> with_reducible rfl)
            try simp only [Act.put, List.setIfInBounds_toArray, List.set_cons_zero, List.set_cons_succ]
            refine Rg.takeL (i := 9) (v := ?_) rfl (by kernel_rfl) (by kernel_rfl) (by kernel_rfl) (fun _ _ _ h => h) (Or.inl ⟨by rfl, ?_⟩) (by assumption) ?_
            rotate_left
            · (intro wz hSw; (have q0 := hD1; have q1 := hD2; go_simp <;> with_reducible rfl))
            try simp only [Act.put, List.setIfInBounds_toArray, List.set_cons_zero, List.set_cons_succ]
            refine Rg.takeL (i := 10) (v := ?_) rfl (by kernel_rfl) (by kernel_rfl) (by kernel_rfl) (fun _ _ _ h => h) (Or.inl ⟨by rfl, ?_⟩) (by assumption) ?_
            rotate_left
            · (intro wz hSw; (try dsimp only at hSw); go_simp <;> with_reducible rfl)
            try simp only [Act.put, List.setIfInBounds_toArray, List.set_cons_zero, List.set_cons_succ]
            refine Rg.takeL (i := 11) (v := ?_) rfl (by kernel_rfl) (by kernel_rfl) (by kernel_rfl) (fun _ _ _ h => h) (Or.inl ⟨by rfl, ?_⟩) (by assumption) ?_
            rotate_left
            · (intro wz hSw; (try dsimp only at hSw); go_simp <;> with_reducible rfl)
            try simp only [Act.put, List.setIfInBounds_toArray, List.set_cons_zero, List.set_cons_succ]
            refine Rg.takeL (i := 12) (v := ?_) rfl (by kernel_rfl) (by kernel_rfl) (by kernel_rfl) (fun _ _ _ h => h) (Or.inl ⟨by rfl, ?_⟩) (by assumption) ?_
            rotate_left
            · (intro wz hSw; (have q0 := hk1; have q1 := hk2; have q2 := hk5; go_simp <;> with_reducible rfl))
            try simp only [Act.put, List.setIfInBounds_toArray, List.set_cons_zero, List.set_cons_succ]
            refine Rg.takeL (i := 13) (v := ?_) rfl (by kernel_rfl) (by kernel_rfl) (by kernel_rfl) (fun _ _ _ h => h) (Or.inl ⟨by rfl, ?_⟩) (by assumption) ?_
            rotate_left
            · (intro wz hSw; (try dsimp only at hSw); go_simp <;> with_reducible rfl)
            try simp only [Act.put, List.setIfInBounds_toArray, List.set_cons_zero, List.set_cons_succ]
            refine Rg.takeL (i := 14) (v := ?_) rfl (by kernel_rfl) (by kernel_rfl) (by kernel_rfl) (fun _ _ _ h => h) (Or.inl ⟨by rfl, ?_⟩) (by assumption) ?_
            rotate_left
            · (intro wz hSw; (try dsimp only at hSw); go_simp <;> with_reducible rfl)
            try simp only [Act.put, List.setIfInBounds_toArray, List.set_cons_zero, List.set_cons_succ]
            refine Rg.takeL (i := 15) (v := ?_) rfl (by kernel_rfl) (by kernel_rfl) (by kernel_rfl) (fun _ _ _ h => h) (Or.inl ⟨by rfl, ?_⟩) (by assumption) ?_
            rotate_left
            · (intro wz hSw; (try dsimp only at hSw); go_simp <;> with_reducible rfl)
            try simp only [Act.put, List.setIfInBounds_toArray, List.set_cons_zero, List.set_cons_succ]
            refine Rg.takeL (i := 16) (v := ?_) rfl (by kernel_rfl) (by kernel_rfl) (by kernel_rfl) (fun _ _ _ h => h) (Or.inl ⟨by rfl, ?_⟩) (by assumption) ?_
            rotate_left
            · (intro wz hSw; (have q0 := hlt; have q00 := hec; go_simp <;> with_reducible rfl))
            try simp only [Act.put, List.setIfInBounds_toArray, List.set_cons_zero, List.set_cons_succ]
            refine Rg.takeL (i := 17) (v := ?_) rfl (by kernel_rfl) (by kernel_rfl) (by kernel_rfl) (fun _ _ _ h => h) (Or.inl ⟨by rfl, ?_⟩) (by assumption) ?_
            rotate_left
            · (intro wz hSw; (have q0 := cel_on hSw ce; go_simp <;> with_reducible rfl))
            try simp only [Act.put, List.setIfInBounds_toArray, List.set_cons_zero, List.set_cons_succ]
            refine Rg.takeL (i := 18) (v := ?_) rfl (by kernel_rfl) (by kernel_rfl) (by kernel_rfl) (fun _ _ _ h => h) (Or.inl ⟨by rfl, ?_⟩) (by assumption) ?_
            rotate_left
            · (intro wz hSw; (try dsimp only at hSw); go_simp <;> with_reducible rfl)
            try simp only [Act.put, List.setIfInBounds_toArray, List.set_cons_zero, List.set_cons_succ]
            refine Rg.takeL (i := 19) (v := ?_) rfl (by kernel_rfl) (by kernel_rfl) (by kernel_rfl) (fun _ _ _ h => h) (Or.inl ⟨by rfl, ?_⟩) (by assumption) ?_
            rotate_left
            · (intro wz hSw; (try dsimp only at hSw); go_simp <;> with_reducible rfl)
            try simp only [Act.put, List.setIfInBounds_toArray, List.set_cons_zero, List.set_cons_succ]
            refine Rg.takeL (i := 20) (v := ?_) rfl (by kernel_rfl) (by kernel_rfl) (by kernel_rfl) (fun _ _ _ h => h) (Or.inl ⟨by rfl, ?_⟩) (by assumption) ?_
            rotate_left
            · (intro wz hSw; (have q0 := hk3; go_simp <;> with_reducible rfl))
            try simp only [Act.put, List.setIfInBounds_toArray, List.set_cons_zero, List.set_cons_succ]
            refine Rg.takeL (i := 21) (v := ?_) rfl (by kernel_rfl) (by kernel_rfl) (by kernel_rfl) (fun _ _ _ h => h) (Or.inl ⟨by rfl, ?_⟩) (by assumption) ?_
            rotate_left
            · (intro wz hSw; (have q0 := hk4; have q00 := hec; go_simp <;> with_reducible rfl))
            try simp only [Act.put, List.setIfInBounds_toArray, List.set_cons_zero, List.set_cons_succ]
            refine Rg.takeL (i := 22) (v := ?_) rfl (by kernel_rfl) (by kernel_rfl) (by kernel_rfl) (fun _ _ _ h => h) (Or.inl ⟨by rfl, ?_⟩) (by assumption) ?_
            rotate_left
            · (intro wz hSw; (have q0 := cel_on hSw cf; go_simp <;> with_reducible rfl))
            try simp only [Act.put, List.setIfInBounds_toArray, List.set_cons_zero, List.set_cons_succ]
            refine Rg.takeL (i := 23) (v := ?_) rfl (by kernel_rfl) (by kernel_rfl) (by kernel_rfl) (fun _ _ _ h => h) (Or.inl ⟨by rfl, ?_⟩) (by assumption) ?_
            rotate_left
            · (intro wz hSw; (have q0 := hx1; go_simp <;> with_reducible rfl))
            try simp only [Act.put, List.setIfInBounds_toArray, List.set_cons_zero, List.set_cons_succ]
            refine Rg.takeL (i := 24) (v := ?_) rfl (by kernel_rfl) (by kernel_rfl) (by kernel_rfl) (fun _ _ _ h => h) (Or.inl ⟨by rfl, ?_⟩) (by assumption) ?_
            rotate_left
            · (intro wz hSw; (try dsimp only at hSw); go_simp <;> with_reducible rfl)
            try simp only [Act.put, List.setIfInBounds_toArray, List.set_cons_zero, List.set_cons_succ]
            refine Rg.takeL (i := 25) (v := ?_) rfl (by kernel_rfl) (by kernel_rfl) (by kernel_rfl) (fun _ _ _ h => h) (Or.inl ⟨by rfl, ?_⟩) (by assumption) ?_
            rotate_left
            · (intro wz hSw; (try dsimp only at hSw); go_simp <;> with_reducible rfl)
            try simp only [Act.put, List.setIfInBounds_toArray, List.set_cons_zero, List.set_cons_succ]
            refine wpAnyH_done (by kernel_rfl) ?_ _
            refine NoPanic.normal ?_
            have HBr := Lib.hid hHeld
            clear hHeld
            go_wp2
            go_roundw
            case rel => exact ⟨k + 1, by omega, by go_num, Lib.hid (below_step' HB.out HBr.out), Lib.hid (below_step' HC.out HBr.out)⟩
            case measure => simp [intOf]; omega
        · obtain rfl : k = en := by omega
          go_wp2
          go_loopw [18] (fun i wr => ∃ q : Nat, q ≤ n ∧ i = .int .i64 q ∧ Hid (Below w.heap.size w wr) ∧ Hid (Below w7.heap.size w7 wr)) (fun i _ => n - (intOf i).toNat)
          case atStart => exact ⟨0, Nat.zero_le _, rfl, HB, HC⟩
          case round =>
            clear HB HC
            obtain ⟨q, hq, rfl, HB, HC⟩ := hrel
            by_cases hlt : q < n
            · obtain ⟨b, off, rfl, hblt, c0, _, _⟩ := (H.out.below HB.out).at' q hlt
              have hql : q < l.length := by rw [HL.out]; exact hlt
              have hmem := (HME.out (l.getD q rw0).e).2 ⟨l.getD q rw0, by rw [List.getD_eq_getElem?_getD, List.getElem?_eq_getElem hql]; exact List.getElem_mem _, rfl⟩
              obtain ⟨x, hx⟩ : ∃ x, (l.getD q rw0).e = x := ⟨_, rfl⟩
              rw [hx] at c0 hmem
              have HMm := Lib.hid (hasI_mem hmem)
              clear hql hx hmem
              obtain ⟨wo2, rfl⟩ : ∃ wo2, wo2 = wr := ⟨_, rfl⟩
              go_wp2
              go_loopw [19, 20] (fun is i wq => ∃ r : Nat, r ≤ k ∧ i = .int .i64 r ∧ is = .bool (hasI (E.take r) x) ∧ Hid (Below wo2.heap.size wo2 wq)) (fun _ i _ => k - (intOf i).toNat)
              case atStart => exact ⟨0, Nat.zero_le _, rfl, rfl, Lib.hid (Below.refl _ _)⟩
              case round =>
                obtain ⟨r, hr, rfl, rfl, HQ⟩ := hrel
                by_cases hrk : r < k
                · have HS2 := Lib.hid (hasI_step (E := E) (e := x) (k := r) (by rw [HEl.out]; exact hrk))
                  obtain ⟨be, oe, rfl, hbt, ce⟩ := (HE.out.below HC.out).at' r hrk
                  have d1 := (Below.cell (p := ⟨be, oe + r, none⟩) HQ.out hbt).trans ce
                  have d2 := (Below.cell (p := ⟨b, off + q * 3, none⟩) HQ.out hblt).trans c0
                  obtain ⟨t, ht⟩ : ∃ t, E.getD r 0 = t := ⟨_, rfl⟩
                  rw [ht] at d1 HS2
                  obtain ⟨f, hf⟩ : ∃ f, hasI (E.take r) x = f := ⟨_, rfl⟩
                  rw [hf] at HS2 ⊢
                  clear ht hf ce c0
                  cases f with
                  | true =>
                    have HS3 : Hid (hasI (E.take (r + 1)) x = true) := Lib.hid (by rw [HS2.out]; rfl)
                    clear HS2
                    go_wp2
                    go_quiet (fail)
                    go_wp2
                    go_roundw
                    case rel => exact ⟨r + 1, by omega, by go_num, by rw [HS3.out], Lib.hid (below_drewN HQ.out _)⟩
                    case measure => simp [intOf]; omega
                  | false =>
                    by_cases hts : t = x
                    · have q2 : (t == x) = true := by simpa using hts
                      have q3 : decide (t = x) = true := decide_eq_true hts
                      have HS3 : Hid (hasI (E.take (r + 1)) x = true) := Lib.hid (by rw [HS2.out, decide_eq_true hts]; rfl)
                      clear HS2 hts
                      go_wp2
                      go_quiet (fail)
                      go_wp2
                      go_roundw
                      case rel => exact ⟨r + 1, by omega, by go_num, by rw [HS3.out], Lib.hid (below_drewN HQ.out _)⟩
                      case measure => simp [intOf]; omega
                    · have q2 : (t == x) = false := by simpa using hts
                      have q3 : decide (t = x) = false := decide_eq_false hts
                      have HS3 : Hid (hasI (E.take (r + 1)) x = false) := Lib.hid (by rw [HS2.out, decide_eq_false hts]; rfl)
                      clear HS2 hts
                      go_wp2
                      go_quiet (fail)
                      go_wp2
                      go_roundw
                      case rel => exact ⟨r + 1, by omega, by go_num, by rw [HS3.out], Lib.hid (below_drewN HQ.out _)⟩
                      case measure => simp [intOf]; omega
                · obtain rfl : r = k := by omega
                  have hEt : E.take r = E := List.take_of_length_le (by rw [HEl.out]; exact Nat.le_refl _)
                  rw [hEt, HMm.out]
                  have HBq : Hid (Below w.heap.size w wr) := Lib.hid (below_step' HB.out HQ.out)
                  have HCq : Hid (Below w7.heap.size w7 wr) := Lib.hid (below_step' HC.out HQ.out)
                  clear hEt
                  go_wp2
                  go_roundw
                  case rel => exact ⟨q + 1, by omega, by go_num, HBq, HCq⟩
                  case measure => simp [intOf]; omega
            · obtain rfl : q = n := by omega
              have HAs := Lib.hid (HR.out.ask wr (HJb.out wr HB.out) ask ha)
              go_wp2_with fail
              refine HAs.out.mono ?_
              rintro e w8 ⟨s, f, rfl, hb8, hA1, hA2, hA3⟩
              have HB8 := Lib.hid (below_step' HB.out hb8)
              have HA1 := Lib.hid hA1
              have HA2 := Lib.hid hA2
              have HA3 := Lib.hid hA3
              clear hb8 hA1 hA2 hA3 HAs HB HC HB7 HC7 HE HP HME HEl HR HJb HI HB1 H HTe HTS HM HL
              have ez : eB.toList = [] := nil_list
              by_cases hz : ask.size = 0
              · obtain rfl := size_nil hz
                have hf : f = false := by
                  cases f with
                  | true => exact absurd (HA2.out rfl).1 (by decide)
                  | false => rfl
                subst hf
                clear HA1 HA2 HA3 hz
                go_wp2_with fail
                go_ret
                exact ⟨rfl, HB8.out⟩
              · have hne := list_ne (s := ask) (by omega)
                have n1 : (ask.toList == []) = false := by simpa using hne
                have n2 : (ask.toList != []) = true := by simpa using hne
                have n3 : (ask.toList == eB.toList) = false := by rw [ez]; exact n1
                have n4 : (ask.toList != eB.toList) = true := by rw [ez]; exact n2
                by_cases h32 : ask.size < 32
                · obtain ⟨rfl, rfl⟩ := HA1.out (by omega) h32
                  have l1 : decide (((s.size : Nat) : Int) < 32) = true := decide_eq_true (by omega)
                  have l2 : decide (s.size < 32) = true := decide_eq_true h32
                  have l3 : decide (((s.size : Nat) : Int) ≤ 32) = true := decide_eq_true (by omega)
                  have l4 : decide (s.size ≤ 32) = true := decide_eq_true (by omega)
                  have l5 : s.size ≤ 32 := by omega
                  clear HA1 HA2 HA3 hne hz
                  go_wp2_with fail
                  go_ret
                  exact ⟨rfl, HB8.out⟩
                · have l1 : decide (((ask.size : Nat) : Int) < 32) = false := decide_eq_false (by omega)
                  have l2 : decide (ask.size < 32) = false := decide_eq_false h32
                  cases f with
                  | true =>
                    have l6 := (HA2.out rfl).2
                    have l3 : decide (((ask.size : Nat) : Int) ≤ 32) = true := decide_eq_true (by omega)
                    have l4 : decide (ask.size ≤ 32) = true := decide_eq_true (by omega)
                    obtain ⟨e3, s3⟩ := HA3.out rfl h32
                    have HOf := Lib.hid (rofT s (by omega) w8)
                    rw [e3] at HOf
                    clear HA1 HA2 HA3 hne hz e3 s3
                    go_wp2_with fail
                    refine HOf.out.mono ?_
                    rintro e w9 ⟨rfl, hb9⟩
                    have HB9 := Lib.hid (below_step' HB8.out hb9)
                    clear hb9 HOf
                    go_wp2_with fail
                    go_ret
                    exact ⟨rfl, HB9.out⟩
                  | false =>
                    by_cases h33 : ask.size ≤ 32
                    · have l3 : decide (((ask.size : Nat) : Int) ≤ 32) = true := decide_eq_true (by omega)
                      have l4 : decide (ask.size ≤ 32) = true := decide_eq_true (by omega)
                      clear HA1 HA2 HA3 hne hz
                      go_wp2_with fail
                      go_ret
                      exact ⟨rfl, HB8.out⟩
                    · have l3 : decide (((ask.size : Nat) : Int) ≤ 32) = false := decide_eq_false (by omega)
                      have l4 : decide (ask.size ≤ 32) = false := decide_eq_false h33
                      clear HA1 HA2 HA3 hne hz
                      go_wp2_with fail
                      go_ret
                      exact ⟨rfl, HB8.out⟩
end Bd
end Go.Proofs.YtlembfhdljmcoaaDoor

/-
  Layer 12: what a store of bodies does, by rows: told of any memory that it may have.
-/
namespace Go.Proofs.YtlembfhdljmcoaaDoor
set_option maxRecDepth 20000
open Go.RowKit

namespace Bd
open Rf Sm
/-- the world is as it was but for the blocks K; what is claimed (K') besides is new -/
structure FrK (K K' : Nat → Prop) (w w' : World) : Prop where
  os : w'.os = w.os
  tape : w'.tape = w.tape
  output : w'.output = w.output
  size : w.heap.size ≤ w'.heap.size
  block : ∀ k, k < w.heap.size → ¬ K k → w'.heap[k]? = w.heap[k]?
  new : ∀ k, K' k → K k ∨ w.heap.size ≤ k
theorem FrK.below {K K' : Nat → Prop} {B : Nat} {w0 w w' : World} (f : FrK K K' w w') (hb : Below B w0 w) (hK : ∀ k, K k → B ≤ k) (hB : B ≤ w.heap.size) : Below B w0 w' :=
  ⟨f.os.trans hb.os, f.tape.trans hb.tape, f.output.trans hb.output, Nat.le_trans hb.size f.size, fun k hk => (f.block k (by omega) (fun h => by have := hK k h; omega)).trans (hb.block k hk)⟩
theorem FrK.ge {K K' : Nat → Prop} {B : Nat} {w w' : World} (f : FrK K K' w w') (hK : ∀ k, K k → B ≤ k) (hB : B ≤ w.heap.size) : ∀ k, K' k → B ≤ k := fun k hk => by
  rcases f.new k hk with h | h
  · exact hK k h
  · omega
theorem FrK.cell {K K' : Nat → Prop} {w w' : World} (f : FrK K K' w w') {b o : Nat} {v : Value} (hb : ¬ K b) (h : w.cell? ⟨b, o, none⟩ = some v) : w'.cell? ⟨b, o, none⟩ = some v := by
  rw [World.cell?_of_block (f.block b (World.block_lt_of_cell? w _ h) hb)]
  exact h
theorem IsRw.frk {K K' : Nat → Prop} {w w' : World} {a : Option Addr} {n c : Nat} {l : List Rw} (h : IsRw w a n c l) (f : FrK K K' w w') (ha : ∀ b off, a = some ⟨b, off, none⟩ → ¬ K b) : IsRw w' a n c l :=
  ⟨h.1, h.2.1, h.2.2.1, h.2.2.2.1, fun j hj => by
    obtain ⟨b, off, e, hlt, h1, h2, h3⟩ := h.2.2.2.2 j hj
    exact ⟨b, off, e, Nat.lt_of_lt_of_le hlt f.size, f.cell (ha b off e) h1, f.cell (ha b off e) h2, f.cell (ha b off e) h3⟩⟩
theorem own_frk {K K' : Nat → Prop} {w w' : World} {b : Nat} {cs : Array Value} {T : TypeId} (h : Rg.Own w b cs T) (f : FrK K K' w w') (hb : ¬ K b) : Rg.Own w' b cs T :=
  ⟨Nat.lt_of_lt_of_le h.1 f.size, (f.block b h.1 hb).trans h.2⟩
/-- rows as the law keeps them, behind so many steps -/
structure Fine (N : Nat) (l : List Rw) : Prop where
  ok : OkR l
  len : l.length ≤ N
  row : ∀ x ∈ l, x.n ≤ N ∧ 32 ≤ x.s.size ∧ x.s.size ≤ 200 ∧ 0 ≤ x.e ∧ x.e ≤ 1048576
theorem Fine.nil : Fine 0 [] := ⟨OkR.nil, Nat.le_refl _, fun _ h => (by cases h)⟩
theorem Fine.mono {N M : Nat} {l : List Rw} (h : Fine N l) (hM : N ≤ M) : Fine M l :=
  ⟨h.ok, Nat.le_trans h.len hM, fun x hx => by obtain ⟨h1, h2⟩ := h.row x hx; exact ⟨by omega, h2⟩⟩
theorem mem_put' {e : Int} {s : ByteArray} : ∀ {l : List Rw} {y : Rw}, y ∈ putR l e s → (∃ x ∈ l, y.e = x.e ∧ y.s = x.s ∧ y.n ≤ x.n + 1) ∨ y = ⟨e, 1, s⟩
  | [], y, h => .inr (by rw [put_nil] at h; exact List.mem_singleton.1 h)
  | x :: l, y, h => by
    rw [put_cons] at h
    by_cases g : hitR e s x = true
    · rw [if_pos g] at h
      rcases List.mem_cons.1 h with rfl | h
      · exact .inl ⟨x, List.mem_cons_self, rfl, rfl, Int.le_refl _⟩
      · exact .inl ⟨y, List.mem_cons_of_mem _ h, rfl, rfl, by omega⟩
    · rw [if_neg g] at h
      rcases List.mem_cons.1 h with rfl | h
      · exact .inl ⟨y, List.mem_cons_self, rfl, rfl, by omega⟩
      · rcases mem_put' h with ⟨z, hz, hh⟩ | hh
        · exact .inl ⟨z, List.mem_cons_of_mem _ hz, hh⟩
        · exact .inr hh
theorem Fine.put {N : Nat} {l : List Rw} (h : Fine N l) {e : Int} {s : ByteArray} (h1 : 32 ≤ s.size) (h2 : s.size ≤ 200) (h3 : 0 ≤ e) (h4 : e ≤ 1048576) : Fine (N + 1) (putR l e s) :=
  ⟨h.ok.put, Nat.le_trans (put_len l e s) (by have := h.len; omega), fun y hy => by
    rcases mem_put' hy with ⟨x, hx, e1, e2, e3⟩ | rfl
    · obtain ⟨g1, g2, g3, g4, g5⟩ := h.row x hx
      rw [e1, e2]
      exact ⟨by omega, g2, g3, g4, g5⟩
    · exact ⟨by show (1 : Int) ≤ _; omega, h1, h2, h3, h4⟩⟩
theorem less_n (e : Int) (s : ByteArray) (x : Rw) : (lessR e s x).n ≤ x.n := by
  unfold lessR
  split
  · show x.n - 1 ≤ x.n; omega
  · exact Int.le_refl _
theorem Fine.free {N : Nat} {l : List Rw} (h : Fine N l) (e : Int) (s : ByteArray) : Fine N (freeR l e s) :=
  ⟨h.ok.free, Nat.le_trans (free_len l e s) h.len, fun y hy => by
    obtain ⟨_, x, hx, rfl⟩ := mem_free hy
    obtain ⟨g1, g2⟩ := h.row x hx
    rw [less_e, less_s]
    exact ⟨by have := less_n e s x; omega, g2⟩⟩
theorem Fine.drop {N : Nat} {l : List Rw} (h : Fine N l) (e : Int) : Fine N (dropR l e) :=
  ⟨h.ok.drop, Nat.le_trans (drop_len l e) h.len, fun y hy => h.row y (mem_drop.1 hy).1⟩
/-- what Put tells and does -/
def PutP (l : List Rw) (tw : Option (ByteArray × ByteArray)) (e : Int) (s : ByteArray) (en : Int) (l' : List Rw) (tw' : Option (ByteArray × ByteArray)) : Prop :=
  (¬ (0 ≤ e ∧ e ≤ 1048576) ∧ en = 3 ∧ l' = l ∧ tw' = tw) ∨
  ((0 ≤ e ∧ e ≤ 1048576) ∧ s.size < 32 ∧ en = 5 ∧ l' = l ∧ tw' = tw) ∨
  ((0 ≤ e ∧ e ≤ 1048576) ∧ 32 ≤ s.size ∧ en = 16 ∧ l' = l ∧ ∃ x ∈ textsR l, x ≠ s ∧ sumB x = sumB s ∧ tw' = some (x, s)) ∨
  ((0 ≤ e ∧ e ≤ 1048576) ∧ 32 ≤ s.size ∧ (∀ x ∈ textsR l, sumB x = sumB s → x = s) ∧ en = 0 ∧ l' = putR l e s ∧ tw' = tw)
/-- what Twin tells -/
def twinV : Option (ByteArray × ByteArray) → Value
  | none => .tuple #[.string eB, .string eB, .bool false]
  | some (x, y) => .tuple #[.string x, .string y, .bool true]
abbrev ObjT := Option Addr → List Rw → Option (ByteArray × ByteArray) → (Nat → Prop) → World → Prop
/-- the store's calls do what is said of rows; an object is told by its pointer, its rows, the two texts of the last clash, and its blocks -/
structure Store (Obj : ObjT) : Prop where
  keep : ∀ {p l tw K w w'}, Obj p l tw K w → w.heap.size ≤ w'.heap.size → (∀ k, K k → w'.heap[k]? = w.heap[k]?) → Obj p l tw K w'
  lt : ∀ {p l tw K w}, Obj p l tw K w → ∀ k, K k → k < w.heap.size
  reads : ∀ {p l tw K w}, Obj p l tw K w → Fine 40 l → Reads p (fun w => Obj p l tw K w ∧ Tab w) l
  new : ∀ w, Calls Tryd.prog 5 #[] w fun e w' => ∃ b K, e = .returned (.pointer (some ⟨b, 0, none⟩)) ∧ Obj (some ⟨b, 0, none⟩) [] none K w' ∧ Below w.heap.size w w' ∧ ∀ k, K k → w.heap.size ≤ k
  put : ∀ {p l tw K w} (x : Int) (s : ByteArray), Obj p l tw K w → Tab w → Fine 40 l → s.size ≤ 200 → Calls Tryd.prog 13 #[.pointer p, .int .i64 x, .string s] w fun e w' =>
    ∃ en l' tw' K', e = .returned (.int .i64 en) ∧ PutP l tw x s en l' tw' ∧ Obj p l' tw' K' w' ∧ FrK K K' w w'
  free : ∀ {p l tw K w} (x : Int) (s : ByteArray), (Lit.int .i64 x).wf = true → Obj p l tw K w → Tab w → Fine 40 l → s.size ≤ 200 → Calls Tryd.prog 8 #[.pointer p, .int .i64 x, .string s] w fun e w' =>
    ∃ K', e = .returned (.int .i64 (if findR l x s < 0 then 7 else 0)) ∧ Obj p (if findR l x s < 0 then l else freeR l x s) tw K' w' ∧ FrK K K' w w'
  drop : ∀ {p l tw K w} (x : Int), (Lit.int .i64 x).wf = true → Obj p l tw K w → Tab w → Fine 40 l → Calls Tryd.prog 11 #[.pointer p, .int .i64 x] w fun e w' =>
    ∃ K', e = .returned (.int .i64 ((textsR l).length - (textsR (dropR l x)).length : Int)) ∧ Obj p (dropR l x) tw K' w' ∧ FrK K K' w w'
  twin : ∀ {p l tw K w}, Obj p l tw K w → Calls Tryd.prog 14 #[.pointer p] w fun e w' => e = .returned (twinV tw) ∧ Below w.heap.size w w'
/-- where nothing is held, freeing changes nothing -/
theorem free_none {l : List Rw} {e : Int} {s : ByteArray} (h : OkR l) (hf : findR l e s < 0) : freeR l e s = l := by
  have hp : ¬ posR l e s < l.length := fun g => by
    unfold findR at hf
    rw [if_pos g] at hf
    omega
  have hn : ∀ x ∈ l, ¬ hitR e s x = true := fun x hx k => hp (pos_lt_iff.2 ⟨x, hx, hit_iff.1 k⟩)
  have : ∀ m : List Rw, (∀ x ∈ m, x ∈ l) → freeR m e s = m := by
    intro m
    induction m with
    | nil => intro _; rfl
    | cons x m ih =>
      intro hm
      have hx := hm x List.mem_cons_self
      rw [free_cons, ih fun y hy => hm y (List.mem_cons_of_mem _ hy)]
      have hl : lessR e s x = x := by unfold lessR; rw [if_neg (hn x hx)]
      have := h.n x hx
      rw [hl]
      unfold keptR
      rw [if_pos (by omega)]
      rfl
  exact this l fun _ hx => hx
end Bd
end Go.Proofs.YtlembfhdljmcoaaDoor

/-
  Layer 12, plain: what maps of texts, of epochs hold, by rows; a row is laid, turned, taken out.
-/
namespace Go.Proofs.YtlembfhdljmcoaaDoor
set_option maxRecDepth 20000

namespace Bd
open Rf Sm
/-- no two rows are of one epoch and one text -/
def UqR (l : List Rw) : Prop := l.Pairwise fun x y => ¬ (x.e = y.e ∧ x.s = y.s)
/-- no two texts have one sum -/
def OneS (l : List Rw) : Prop := ∀ r ∈ l, ∀ r' ∈ l, sumB r.s = sumB r'.s → r.s = r'.s
def delR (l : List Rw) (e : Int) (s : ByteArray) : List Rw := l.filter fun x => !hitR e s x
/-- how many epochs hold a text; how many texts an epoch holds -/
def epN (l : List Rw) (s : ByteArray) : Nat := (l.filter fun x => decide (x.s = s)).length
def exN (l : List Rw) (e : Int) : Nat := (l.filter fun x => decide (x.e = e)).length
def bodyV (s : ByteArray) (n : Nat) : Value := .agg #[.string s, .int .i64 n]
def ftx (l : List Rw) (x : List UInt8) : Option Value := (l.find? fun r => decide (sumB r.s = x)).map fun r => bodyV r.s (epN l r.s)
def fix_ (l : List Rw) (e : Int) (x : List UInt8) : Option Value := (l.find? fun r => decide (r.e = e ∧ sumB r.s = x)).map fun r => .int .i64 r.n
theorem uq_eq : ∀ {l : List Rw}, UqR l → ∀ {x y : Rw}, x ∈ l → y ∈ l → x.e = y.e → x.s = y.s → x = y
  | [], _, _, _, h, _, _, _ => by cases h
  | a :: l, u, x, y, hx, hy, he, hs => by
    have u' := List.pairwise_cons.1 u
    rcases List.mem_cons.1 hx with gx | gx <;> rcases List.mem_cons.1 hy with gy | gy
    · rw [gx, gy]
    · exact absurd ⟨by rw [← gx]; exact he, by rw [← gx]; exact hs⟩ (u'.1 y gy)
    · exact absurd ⟨by rw [← gy]; exact he.symm, by rw [← gy]; exact hs.symm⟩ (u'.1 x gx)
    · exact uq_eq u'.2 gx gy he hs
theorem uq_nodup {l : List Rw} (u : UqR l) : l.Nodup := List.Pairwise.imp (fun h e => h ⟨by rw [e], by rw [e]⟩) u
theorem ftx_some {l : List Rw} (o : OneS l) {r : Rw} (hr : r ∈ l) : ftx l (sumB r.s) = some (bodyV r.s (epN l r.s)) := by
  unfold ftx
  cases h : l.find? fun r' => decide (sumB r'.s = sumB r.s) with
  | none => exact absurd (decide_eq_true rfl) (List.find?_eq_none.1 h r hr)
  | some r' =>
    have h1 : sumB r'.s = sumB r.s := by simpa using List.find?_some h
    have := o r' (List.mem_of_find?_eq_some h) r hr h1
    show some (bodyV r'.s (epN l r'.s)) = _
    rw [this]
theorem ftx_none {l : List Rw} {x : List UInt8} (h : ∀ r ∈ l, sumB r.s ≠ x) : ftx l x = none := by
  unfold ftx
  rw [List.find?_eq_none.2 (fun r hr => by simpa using h r hr)]
  rfl
theorem fix_some {l : List Rw} (u : UqR l) (o : OneS l) {r : Rw} (hr : r ∈ l) : fix_ l r.e (sumB r.s) = some (.int .i64 r.n) := by
  unfold fix_
  cases h : l.find? fun r' => decide (r'.e = r.e ∧ sumB r'.s = sumB r.s) with
  | none => exact absurd (decide_eq_true ⟨rfl, rfl⟩) (List.find?_eq_none.1 h r hr)
  | some r' =>
    have h1 : r'.e = r.e ∧ sumB r'.s = sumB r.s := by simpa using List.find?_some h
    have hm := List.mem_of_find?_eq_some h
    have := uq_eq u hm hr h1.1 (o r' hm r hr h1.2)
    show some (Value.int .i64 r'.n) = _
    rw [this]
theorem fix_none {l : List Rw} {e : Int} {x : List UInt8} (h : ∀ r ∈ l, r.e = e → sumB r.s ≠ x) : fix_ l e x = none := by
  unfold fix_
  rw [List.find?_eq_none.2 (fun r hr => by simpa using h r hr)]
  rfl
theorem ftx_cases {l : List Rw} (o : OneS l) (x : List UInt8) : (∃ r ∈ l, sumB r.s = x ∧ ftx l x = some (bodyV r.s (epN l r.s))) ∨ ((∀ r ∈ l, sumB r.s ≠ x) ∧ ftx l x = none) := by
  by_cases h : ∃ r ∈ l, sumB r.s = x
  · obtain ⟨r, hr, rfl⟩ := h
    exact .inl ⟨r, hr, rfl, ftx_some o hr⟩
  · have h' : ∀ r ∈ l, sumB r.s ≠ x := fun r hr e => h ⟨r, hr, e⟩
    exact .inr ⟨h', ftx_none h'⟩
theorem fix_cases {l : List Rw} (u : UqR l) (o : OneS l) (e : Int) (x : List UInt8) : (∃ r ∈ l, r.e = e ∧ sumB r.s = x ∧ fix_ l e x = some (.int .i64 r.n)) ∨ ((∀ r ∈ l, r.e = e → sumB r.s ≠ x) ∧ fix_ l e x = none) := by
  by_cases h : ∃ r ∈ l, r.e = e ∧ sumB r.s = x
  · obtain ⟨r, hr, rfl, rfl⟩ := h
    exact .inl ⟨r, hr, rfl, rfl, fix_some u o hr⟩
  · have h' : ∀ r ∈ l, r.e = e → sumB r.s ≠ x := fun r hr he hx => h ⟨r, hr, he, hx⟩
    exact .inr ⟨h', fix_none h'⟩
/-- all other rows are the same -/
structure Oth (e : Int) (s : ByteArray) (l l' : List Rw) : Prop where
  u : UqR l
  u' : UqR l'
  m : ∀ y, hitR e s y = false → (y ∈ l' ↔ y ∈ l)
theorem hit_false {e : Int} {s : ByteArray} {y : Rw} (h : ¬ (y.e = e ∧ y.s = s)) : hitR e s y = false := by
  cases hh : hitR e s y with
  | false => rfl
  | true => exact absurd (hit_iff.1 hh) h
theorem filter_two {l l' : List Rw} (n : l.Nodup) (n' : l'.Nodup) (p : Rw → Bool) (h : ∀ y, p y = true → (y ∈ l' ↔ y ∈ l)) : (l'.filter p).length = (l.filter p).length := by
  refine List.Perm.length_eq ((List.perm_ext_iff_of_nodup (n'.filter p) (n.filter p)).2 fun y => ?_)
  rw [List.mem_filter, List.mem_filter]
  exact ⟨fun ⟨h1, h2⟩ => ⟨(h y h2).1 h1, h2⟩, fun ⟨h1, h2⟩ => ⟨(h y h2).2 h1, h2⟩⟩
/-- is there such a row? -/
def hasR (l : List Rw) (e : Int) (s : ByteArray) : Bool := l.any (hitR e s)
theorem hasR_iff {l : List Rw} {e : Int} {s : ByteArray} : hasR l e s = true ↔ ∃ r ∈ l, r.e = e ∧ r.s = s := by
  unfold hasR
  rw [List.any_eq_true]
  exact ⟨fun ⟨r, h1, h2⟩ => ⟨r, h1, hit_iff.1 h2⟩, fun ⟨r, h1, h2⟩ => ⟨r, h1, hit_iff.2 h2⟩⟩
theorem filter_hit {e : Int} {s : ByteArray} (p : Rw → Bool) (hp : ∀ y, hitR e s y = true → p y = true) : ∀ {l : List Rw}, UqR l → (l.filter p).length = (l.filter fun y => p y && !hitR e s y).length + (if hasR l e s then 1 else 0)
  | [], _ => rfl
  | x :: l, u => by
    have u' := List.pairwise_cons.1 u
    have ih := filter_hit p hp u'.2
    by_cases hx : hitR e s x = true
    · have hn : hasR l e s = false := by
        cases h : hasR l e s with
        | false => rfl
        | true =>
          obtain ⟨r, hr, h1, h2⟩ := hasR_iff.1 h
          obtain ⟨g1, g2⟩ := hit_iff.1 hx
          exact absurd ⟨g1.trans h1.symm, g2.trans h2.symm⟩ (u'.1 r hr)
      have h2 : hasR (x :: l) e s = true := by unfold hasR; rw [List.any_cons, hx]; rfl
      rw [hn] at ih
      rw [h2, List.filter_cons_of_pos (hp x hx), List.filter_cons_of_neg (by rw [hx]; simp), List.length_cons, ih]
      rfl
    · have hx' : hitR e s x = false := by simpa using hx
      have h2 : hasR (x :: l) e s = hasR l e s := by unfold hasR; rw [List.any_cons, hx']; rfl
      rw [h2]
      by_cases hpx : p x = true
      · rw [List.filter_cons_of_pos hpx, List.filter_cons_of_pos (by rw [hpx, hx']; rfl), List.length_cons, List.length_cons, ih]
        omega
      · rw [List.filter_cons_of_neg hpx, List.filter_cons_of_neg (by simp [hpx]), ih]
namespace Oth
variable {e : Int} {s : ByteArray} {l l' : List Rw}
theorem cnt (h : Oth e s l l') (p : Rw → Bool) (hp : ∀ y, hitR e s y = true → p y = true) : (l'.filter p).length + (if hasR l e s then 1 else 0) = (l.filter p).length + (if hasR l' e s then 1 else 0) := by
  rw [filter_hit p hp h.u, filter_hit p hp h.u', filter_two (uq_nodup h.u) (uq_nodup h.u') (fun y => p y && !hitR e s y) (fun y hy => h.m y (by
    have : p y = true ∧ (!hitR e s y) = true := by simpa using hy
    simpa using this.2))]
  omega
theorem ep (h : Oth e s l l') : epN l' s + (if hasR l e s then 1 else 0) = epN l s + (if hasR l' e s then 1 else 0) := h.cnt _ fun y hy => by simpa using (hit_iff.1 hy).2
theorem ex (h : Oth e s l l') : exN l' e + (if hasR l e s then 1 else 0) = exN l e + (if hasR l' e s then 1 else 0) := h.cnt _ fun y hy => by simpa using (hit_iff.1 hy).1
theorem ep_ne (h : Oth e s l l') {t : ByteArray} (ht : t ≠ s) : epN l' t = epN l t := filter_two (uq_nodup h.u) (uq_nodup h.u') _ fun y hy => h.m y (hit_false fun g => ht ((of_decide_eq_true hy).symm.trans g.2))
theorem ex_ne (h : Oth e s l l') {e' : Int} (he : e' ≠ e) : exN l' e' = exN l e' := filter_two (uq_nodup h.u) (uq_nodup h.u') _ fun y hy => h.m y (hit_false fun g => he ((of_decide_eq_true hy).symm.trans g.1))
theorem some_ne (h : Oth e s l l') {t : ByteArray} (ht : t ≠ s) : (∃ r ∈ l', r.s = t) ↔ ∃ r ∈ l, r.s = t :=
  ⟨fun ⟨r, hr, h1⟩ => ⟨r, (h.m r (hit_false fun g => ht (h1.symm.trans g.2))).1 hr, h1⟩, fun ⟨r, hr, h1⟩ => ⟨r, (h.m r (hit_false fun g => ht (h1.symm.trans g.2))).2 hr, h1⟩⟩
theorem epoch_ne (h : Oth e s l l') {e' : Int} (he : e' ≠ e) : (∃ r ∈ l', r.e = e') ↔ ∃ r ∈ l, r.e = e' :=
  ⟨fun ⟨r, hr, h1⟩ => ⟨r, (h.m r (hit_false fun g => he (h1.symm.trans g.1))).1 hr, h1⟩, fun ⟨r, hr, h1⟩ => ⟨r, (h.m r (hit_false fun g => he (h1.symm.trans g.1))).2 hr, h1⟩⟩
theorem fix_ne (h : Oth e s l l') (o : OneS l) (o' : OneS l') {e' : Int} {x : List UInt8} (hx : ¬ (e' = e ∧ x = sumB s)) : fix_ l' e' x = fix_ l e' x := by
  have hh : ∀ y : Rw, y.e = e' → sumB y.s = x → hitR e s y = false := fun y h1 h2 => hit_false fun g => hx ⟨h1.symm.trans g.1, by rw [← h2, g.2]⟩
  rcases fix_cases h.u o e' x with ⟨r, hr, h1, h2, h3⟩ | ⟨hn, h3⟩
  · have hr' := (h.m r (hh r h1 h2)).2 hr
    rw [h3, ← h1, ← h2]
    exact fix_some h.u' o' hr'
  · rw [h3]
    exact fix_none fun r hr h1 h2 => hn r ((h.m r (hh r h1 h2)).1 hr) h1 h2
theorem ftx_ne (h : Oth e s l l') (o : OneS l) (o' : OneS l') {x : List UInt8} (hx : x ≠ sumB s) : ftx l' x = ftx l x := by
  have hh : ∀ y : Rw, sumB y.s = x → y.s ≠ s := fun y h2 g => hx (by rw [← h2, g])
  rcases ftx_cases o x with ⟨r, hr, h2, h3⟩ | ⟨hn, h3⟩
  · have hr' := (h.m r (hit_false fun g => hh r h2 g.2)).2 hr
    rw [h3, ← h2, ← h.ep_ne (hh r h2)]
    exact ftx_some o' hr'
  · rw [h3]
    exact ftx_none fun r hr h2 => hn r ((h.m r (hit_false fun g => hh r h2 g.2)).1 hr) h2
/-- texts come, and go -/
theorem texts_same (h : Oth e s l l') (hs : (∃ r ∈ l', r.s = s) ↔ ∃ r ∈ l, r.s = s) : (textsR l').Perm (textsR l) := by
  refine (List.perm_ext_iff_of_nodup (nodup_texts _) (nodup_texts _)).2 fun t => ?_
  rw [mem_texts, mem_texts]
  by_cases ht : t = s
  · subst ht; exact hs
  · exact h.some_ne ht
theorem texts_new (h : Oth e s l l') (h1 : ∃ r ∈ l', r.s = s) (h0 : ¬ ∃ r ∈ l, r.s = s) : (textsR l').Perm (s :: textsR l) := by
  refine (List.perm_ext_iff_of_nodup (nodup_texts _) (List.nodup_cons.2 ⟨fun g => h0 (mem_texts.1 g), nodup_texts _⟩)).2 fun t => ?_
  rw [mem_texts, List.mem_cons, mem_texts]
  by_cases ht : t = s
  · subst ht; exact ⟨fun _ => .inl rfl, fun _ => h1⟩
  · rw [h.some_ne ht]
    exact ⟨.inr, fun g => g.resolve_left ht⟩
theorem symm (h : Oth e s l l') : Oth e s l' l := ⟨h.u', h.u, fun y hy => (h.m y hy).symm⟩
end Oth
theorem sizeT_perm {a b : List ByteArray} (h : a.Perm b) : sizeT a = sizeT b := (h.map _).sum_nat
theorem sizeT_cons (s : ByteArray) (l : List ByteArray) : sizeT (s :: l) = s.size + sizeT l := by simp [sizeT]
theorem ep_pos {l : List Rw} {s : ByteArray} : 0 < epN l s ↔ ∃ r ∈ l, r.s = s := by
  unfold epN
  rw [List.length_pos_iff_exists_mem]
  constructor
  · rintro ⟨r, hr⟩
    rw [List.mem_filter] at hr
    exact ⟨r, hr.1, by simpa using hr.2⟩
  · rintro ⟨r, hr, h⟩
    exact ⟨r, List.mem_filter.2 ⟨hr, by simpa using h⟩⟩
theorem ex_pos {l : List Rw} {e : Int} : 0 < exN l e ↔ ∃ r ∈ l, r.e = e := by
  unfold exN
  rw [List.length_pos_iff_exists_mem]
  constructor
  · rintro ⟨r, hr⟩
    rw [List.mem_filter] at hr
    exact ⟨r, hr.1, by simpa using hr.2⟩
  · rintro ⟨r, hr, h⟩
    exact ⟨r, List.mem_filter.2 ⟨hr, by simpa using h⟩⟩
theorem ep_le (l : List Rw) (s : ByteArray) : epN l s ≤ l.length := List.length_filter_le _ _
theorem ex_le (l : List Rw) (e : Int) : exN l e ≤ l.length := List.length_filter_le _ _
theorem texts_le (l : List Rw) : (textsR l).length ≤ l.length := by
  have := texts_len l l.length (Nat.le_refl _)
  rwa [List.take_length] at this
/-- the epochs that hold something -/
def epochsR : List Rw → List Int
  | [] => []
  | x :: l => if x.e ∈ epochsR l then epochsR l else x.e :: epochsR l
theorem mem_epochs {e : Int} : ∀ {l : List Rw}, e ∈ epochsR l ↔ ∃ r ∈ l, r.e = e
  | [] => ⟨fun h => (by cases h), fun ⟨_, h, _⟩ => (by cases h)⟩
  | x :: l => by
    have ih := mem_epochs (e := e) (l := l)
    unfold epochsR
    constructor
    · intro h
      split at h
      · obtain ⟨r, hr, h1⟩ := ih.1 h
        exact ⟨r, List.mem_cons_of_mem _ hr, h1⟩
      · rcases List.mem_cons.1 h with h | h
        · exact ⟨x, List.mem_cons_self, h.symm⟩
        · obtain ⟨r, hr, h1⟩ := ih.1 h
          exact ⟨r, List.mem_cons_of_mem _ hr, h1⟩
    · rintro ⟨r, hr, h1⟩
      split
      · rename_i hx
        rcases List.mem_cons.1 hr with h | h
        · rw [← h1, h]; exact hx
        · exact ih.2 ⟨r, h, h1⟩
      · rcases List.mem_cons.1 hr with h | h
        · rw [← h1, h]; exact List.mem_cons_self
        · exact List.mem_cons_of_mem _ (ih.2 ⟨r, h, h1⟩)
theorem nodup_epochs : ∀ l : List Rw, (epochsR l).Nodup
  | [] => List.nodup_nil
  | x :: l => by
    unfold epochsR
    split
    · exact nodup_epochs l
    · rename_i h
      exact List.nodup_cons.2 ⟨h, nodup_epochs l⟩
theorem epochs_le : ∀ l : List Rw, (epochsR l).length ≤ l.length
  | [] => Nat.le_refl _
  | x :: l => by
    have := epochs_le l
    unfold epochsR
    split
    · exact Nat.le_succ_of_le this
    · exact Nat.succ_le_succ this
namespace Oth
variable {e : Int} {s : ByteArray} {l l' : List Rw}
theorem epochs_same (h : Oth e s l l') (hs : (∃ r ∈ l', r.e = e) ↔ ∃ r ∈ l, r.e = e) : (epochsR l').length = (epochsR l).length := by
  refine List.Perm.length_eq ((List.perm_ext_iff_of_nodup (nodup_epochs _) (nodup_epochs _)).2 fun t => ?_)
  rw [mem_epochs, mem_epochs]
  by_cases ht : t = e
  · subst ht; exact hs
  · exact h.epoch_ne ht
theorem epochs_new (h : Oth e s l l') (h1 : ∃ r ∈ l', r.e = e) (h0 : ¬ ∃ r ∈ l, r.e = e) : (epochsR l').length = (epochsR l).length + 1 := by
  refine List.Perm.length_eq (l₂ := e :: epochsR l) ((List.perm_ext_iff_of_nodup (nodup_epochs _) (List.nodup_cons.2 ⟨fun g => h0 (mem_epochs.1 g), nodup_epochs _⟩)).2 fun t => ?_)
  rw [mem_epochs, List.mem_cons, mem_epochs]
  by_cases ht : t = e
  · subst ht; exact ⟨fun _ => .inl rfl, fun _ => h1⟩
  · rw [h.epoch_ne ht]
    exact ⟨.inr, fun g => g.resolve_left ht⟩
end Oth
/-- put: which rows there are -/
theorem mem_putU {e : Int} {s : ByteArray} : ∀ {l : List Rw}, UqR l → ∀ {y : Rw}, y ∈ putR l e s ↔ (y ∈ l ∧ hitR e s y = false) ∨ y = ⟨e, cntR l e s + 1, s⟩
  | [], _, y => by
    rw [put_nil, List.mem_singleton]
    exact ⟨.inr, fun h => h.resolve_left fun g => by cases g.1⟩
  | x :: l, u, y => by
    have u' := List.pairwise_cons.1 u
    rw [put_cons]
    by_cases g : hitR e s x = true
    · obtain ⟨g1, g2⟩ := hit_iff.1 g
      have hn : ∀ z ∈ l, hitR e s z = false := fun z hz => hit_false fun k => u'.1 z hz ⟨g1.trans k.1.symm, g2.trans k.2.symm⟩
      have hc : cntR (x :: l) e s = x.n := by
        unfold cntR
        rw [if_pos g, cnt_none fun z hz k => u'.1 z hz ⟨g1.trans k.1.symm, g2.trans k.2.symm⟩, Int.add_zero]
      have hy : ({ x with n := x.n + 1 } : Rw) = ⟨e, x.n + 1, s⟩ := Rw.ext' g1 rfl g2
      rw [if_pos g, hc, List.mem_cons, List.mem_cons, hy]
      constructor
      · rintro (h | h)
        · exact .inr h
        · exact .inl ⟨.inr h, hn y h⟩
      · rintro (⟨h | h, h2⟩ | h)
        · subst h; rw [g] at h2; cases h2
        · exact .inr h
        · exact .inl h
    · have hc : cntR (x :: l) e s = cntR l e s := by
        show (if hitR e s x then x.n else 0) + _ = _
        rw [if_neg g, Int.zero_add]
      have g' : hitR e s x = false := by simpa using g
      rw [if_neg g, hc, List.mem_cons, mem_putU u'.2, List.mem_cons]
      constructor
      · rintro (h | h | h)
        · subst h; exact .inl ⟨.inl rfl, g'⟩
        · exact .inl ⟨.inr h.1, h.2⟩
        · exact .inr h
      · rintro (⟨h | h, h2⟩ | h)
        · exact .inl h
        · exact .inr (.inl ⟨h, h2⟩)
        · exact .inr (.inr h)
theorem oth_put {l : List Rw} (h : OkR l) (e : Int) (s : ByteArray) : Oth e s l (putR l e s) :=
  ⟨h.u, (h.put (e := e) (s := s)).u, fun y hy => by
    rw [mem_putU h.u]
    refine ⟨fun g => ?_, fun g => .inl ⟨g, hy⟩⟩
    rcases g with g | g
    · exact g.1
    · have k : hitR e s y = true := hit_iff.2 ⟨by rw [g], by rw [g]⟩
      rw [k] at hy
      cases hy⟩
theorem put_has {l : List Rw} (h : OkR l) (e : Int) (s : ByteArray) : (⟨e, cntR l e s + 1, s⟩ : Rw) ∈ putR l e s := (mem_putU h.u).2 (.inr rfl)
theorem one_put {l : List Rw} (h : OkR l) (o : OneS l) {e : Int} {s : ByteArray} (hs : ∀ t ∈ textsR l, sumB t = sumB s → t = s) : OneS (putR l e s) := by
  have hm : ∀ r ∈ putR l e s, r.s = s ∨ r ∈ l := fun r hr => by
    rcases (mem_putU h.u).1 hr with h | h
    · exact .inr h.1
    · exact .inl (by rw [h])
  intro r hr r' hr' he
  rcases hm r hr with h1 | h1 <;> rcases hm r' hr' with h2 | h2
  · rw [h1, h2]
  · rw [h1] at he ⊢; exact (hs _ (mem_texts.2 ⟨r', h2, rfl⟩) he.symm).symm
  · rw [h2] at he ⊢; exact hs _ (mem_texts.2 ⟨r, h1, rfl⟩) he
  · exact o r h1 r' h2 he
/-- a row is taken out -/
theorem mem_del {l : List Rw} {e : Int} {s : ByteArray} {y : Rw} : y ∈ delR l e s ↔ y ∈ l ∧ hitR e s y = false := by simp [delR]
theorem uq_filter {l : List Rw} (u : UqR l) (p : Rw → Bool) : UqR (l.filter p) := List.Pairwise.sublist List.filter_sublist u
theorem oth_del {l : List Rw} (u : UqR l) (e : Int) (s : ByteArray) : Oth e s l (delR l e s) := ⟨u, uq_filter u _, fun y hy => by rw [mem_del]; exact ⟨fun g => g.1, fun g => ⟨g, hy⟩⟩⟩
theorem one_sub {l l' : List Rw} (o : OneS l) (h : ∀ r ∈ l', ∃ r' ∈ l, r'.s = r.s) : OneS l' := fun r hr r' hr' he => by
  obtain ⟨q, hq, h1⟩ := h r hr
  obtain ⟨q', hq', h2⟩ := h r' hr'
  rw [← h1, ← h2] at he ⊢
  exact o q hq q' hq' he
theorem one_del {l : List Rw} (o : OneS l) (e : Int) (s : ByteArray) : OneS (delR l e s) := one_sub o fun r hr => ⟨r, (mem_del.1 hr).1, rfl⟩
theorem del_has (l : List Rw) (e : Int) (s : ByteArray) : hasR (delR l e s) e s = false := by
  cases h : hasR (delR l e s) e s with
  | false => rfl
  | true =>
    obtain ⟨r, hr, h1⟩ := hasR_iff.1 h
    have := (mem_del.1 hr).2
    rw [hit_iff.2 h1] at this
    cases this
/-- a row is turned -/
def lessL (l : List Rw) (e : Int) (s : ByteArray) : List Rw := l.map (lessR e s)
theorem uq_less {l : List Rw} (u : UqR l) (e : Int) (s : ByteArray) : UqR (lessL l e s) := by
  unfold UqR lessL
  rw [List.pairwise_map]
  refine List.Pairwise.imp (fun {a b} h => ?_) u
  rw [less_e, less_s, less_e, less_s]
  exact h
theorem less_id {e : Int} {s : ByteArray} {x : Rw} (h : hitR e s x = false) : lessR e s x = x := by unfold lessR; rw [h]; rfl
theorem hit_less (e : Int) (s : ByteArray) (x : Rw) : hitR e s (lessR e s x) = hitR e s x := by unfold hitR; rw [less_e, less_s]
theorem oth_less {l : List Rw} (u : UqR l) (e : Int) (s : ByteArray) : Oth e s l (lessL l e s) := ⟨u, uq_less u e s, fun y hy => by
  unfold lessL
  rw [List.mem_map]
  constructor
  · rintro ⟨x, hx, rfl⟩
    rw [hit_less] at hy
    rwa [less_id hy]
  · exact fun hx => ⟨y, hx, less_id hy⟩⟩
theorem one_less {l : List Rw} (o : OneS l) (e : Int) (s : ByteArray) : OneS (lessL l e s) := one_sub o fun r hr => by
  obtain ⟨x, hx, rfl⟩ := List.mem_map.1 hr
  exact ⟨x, hx, (less_s e s x).symm⟩
theorem less_mem {l : List Rw} {r : Rw} (hr : r ∈ l) : (⟨r.e, r.n - 1, r.s⟩ : Rw) ∈ lessL l r.e r.s := List.mem_map.2 ⟨r, hr, by unfold lessR; rw [if_pos (hit_iff.2 ⟨rfl, rfl⟩)]⟩
theorem free_more {e : Int} {s : ByteArray} : ∀ {l : List Rw}, (∀ x ∈ l, 1 ≤ x.n) → (∀ x ∈ l, hitR e s x = true → x.n ≠ 1) → freeR l e s = lessL l e s
  | [], _, _ => rfl
  | x :: l, h, hn => by
    have ih := free_more (e := e) (s := s) (l := l) (fun y hy => h y (List.mem_cons_of_mem _ hy)) fun y hy => hn y (List.mem_cons_of_mem _ hy)
    have hx := h x List.mem_cons_self
    have hk : keptR (lessR e s x) = [lessR e s x] := by
      unfold keptR
      rw [if_pos]
      by_cases g : hitR e s x = true
      · have := hn x List.mem_cons_self g
        unfold lessR
        rw [if_pos g]
        show 0 < x.n - 1
        omega
      · rw [less_id (by simpa using g)]; omega
    rw [free_cons, ih, hk]
    rfl
theorem free_last {e : Int} {s : ByteArray} : ∀ {l : List Rw}, (∀ x ∈ l, 1 ≤ x.n) → (∀ x ∈ l, hitR e s x = true → x.n = 1) → freeR l e s = delR (lessL l e s) e s
  | [], _, _ => rfl
  | x :: l, h, hn => by
    have ih := free_last (e := e) (s := s) (l := l) (fun y hy => h y (List.mem_cons_of_mem _ hy)) fun y hy => hn y (List.mem_cons_of_mem _ hy)
    have hx := h x List.mem_cons_self
    rw [free_cons, ih]
    show _ = ((lessR e s x) :: lessL l e s).filter _
    by_cases g : hitR e s x = true
    · have h1 := hn x List.mem_cons_self g
      rw [List.filter_cons_of_neg (by rw [hit_less, g]; simp)]
      have : keptR (lessR e s x) = [] := by
        unfold keptR lessR
        rw [if_pos g, if_neg (by show ¬ 0 < x.n - 1; omega)]
      rw [this]
      rfl
    · have g' : hitR e s x = false := by simpa using g
      rw [List.filter_cons_of_pos (by rw [hit_less, g']; rfl), less_id g']
      have : keptR x = [x] := by unfold keptR; rw [if_pos (by omega)]
      rw [this]
      rfl
theorem cnt_row {l : List Rw} (u : UqR l) : ∀ {r : Rw}, r ∈ l → cntR l r.e r.s = r.n := by
  induction l with
  | nil => intro r h; cases h
  | cons x l ih =>
    intro r hr
    have u' := List.pairwise_cons.1 u
    unfold cntR
    rcases List.mem_cons.1 hr with rfl | hr
    · rw [if_pos (hit_iff.2 ⟨rfl, rfl⟩), cnt_none fun z hz k => u'.1 z hz ⟨k.1.symm, k.2.symm⟩, Int.add_zero]
    · rw [if_neg fun k => u'.1 r hr (hit_iff.1 k), ih u'.2 hr, Int.zero_add]
end Bd
end Go.Proofs.YtlembfhdljmcoaaDoor

/-
  Maps whose values are held as they are: what a block tells of each key; looked up, laid, taken out, counted; one entry made, and stored into.
-/
namespace Go.Proofs.YtlembfhdljmcoaaDoor
set_option maxRecDepth 20000
open Go.RowKit Go.Maps Go.WideMaps Go.WideElems Go.ChangeMaps Go.MapKept

namespace Bd
/-- a map's key as a value, as what it reads as; the element's zero value -/
structure KeyK (P : Program) (t k e : TypeId) {κ : Type} (val : κ → Value) (lit : κ → Lit) (G : κ → Prop) (z : Value) : Prop where
  K : Keyed P k
  ht : P.underlying t = some (.map k e)
  key : ∀ {x}, G x → keyOf P k (val x) = some (lit x)
  inj : ∀ {x y}, G x → G y → lit x = lit y → x = y
  zero : ∀ w, (zeroValue e).run P w = .ok z w
def heldE (v : Value) : Option (DataW Value × List MemPlace) := some (.held v, [])
def MapAt (D : DataW Value) (l : Lit) : Option Value → Prop
  | none => Maps.has D l = false
  | some v => Maps.has D l = true ∧ ∀ y, D.atKey l y = .held v
def setF {κ : Type} [DecidableEq κ] (f : κ → Option Value) (x : κ) (v : Option Value) : κ → Option Value := fun y => if y = x then v else f y
/-- block b is a map that has these, N of them -/
structure MapB (P : Program) (k : TypeId) {κ : Type} (lit : κ → Lit) (G : κ → Prop) (w : World) (b : Nat) (f : κ → Option Value) (N : Nat) (D : DataW Value) : Prop where
  own : w.ownsMap P k heldE b N D
  size : Maps.size D = N
  at_ : ∀ x, G x → MapAt D (lit x) (f x)
/-- a map's value: nil, or a block -/
def MapO (P : Program) (k : TypeId) {κ : Type} (lit : κ → Lit) (G : κ → Prop) (w : World) (o : Option Nat) (f : κ → Option Value) (N : Nat) : Prop :=
  match o with
  | none => (∀ x, G x → f x = none) ∧ N = 0
  | some b => ∃ D, MapB P k lit G w b f N D
section
variable {P : Program} {t k e : TypeId} {κ : Type} {val : κ → Value} {lit : κ → Lit} {G : κ → Prop} {z : Value} {w w' : World} {b N : Nat} {D : DataW Value} {f : κ → Option Value} {o : Option Nat}
theorem MapB.congr (h : MapB P k lit G w b f N D) {f' : κ → Option Value} (hf : ∀ x, G x → f' x = f x) : MapB P k lit G w b f' N D := ⟨h.own, h.size, fun x hx => by rw [hf x hx]; exact h.at_ x hx⟩
theorem MapO.congr (h : MapO P k lit G w o f N) {f' : κ → Option Value} (hf : ∀ x, G x → f' x = f x) : MapO P k lit G w o f' N := by
  cases o with
  | none => exact ⟨fun x hx => (hf x hx).trans (h.1 x hx), h.2⟩
  | some b => obtain ⟨D, h⟩ := h; exact ⟨D, h.congr hf⟩
theorem MapB.lt (h : MapB P k lit G w b f N D) : b < w.heap.size := h.own.lt
theorem MapB.same (h : MapB P k lit G w b f N D) (hb : w'.heap[b]? = w.heap[b]?) : MapB P k lit G w' b f N D := by
  refine ⟨?_, h.size, h.at_⟩
  obtain ⟨es, clock, h1, h2⟩ := h.own
  exact ⟨es, clock, hb.trans h1, h2⟩
theorem MapO.same (h : MapO P k lit G w o f N) (hb : ∀ b, o = some b → w'.heap[b]? = w.heap[b]?) : MapO P k lit G w' o f N := by
  cases o with
  | none => exact h
  | some b => obtain ⟨D, h⟩ := h; exact ⟨D, h.same (hb b rfl)⟩
theorem MapO.lt (h : MapO P k lit G w o f N) {b : Nat} (hb : o = some b) : b < w.heap.size := by
  subst hb
  obtain ⟨D, h⟩ := h
  exact h.lt
/-- an exact bound -/
theorem own_tight {n : Nat} (h : w.ownsMap P k heldE b n D) : w.ownsMap P k heldE b (Maps.size D) D := by
  obtain ⟨es, clock, h1, h2, _, h4⟩ := h
  exact ⟨es, clock, h1, h2, by rw [h4]; simp [Maps.size, length_sorted], h4⟩
theorem MapB.made (w : World) : MapB P k lit G (w.alloc (.map #[] 0)) w.heap.size (fun _ => none) 0 (.map []) := ⟨World.ownsMap_made _ _ _ _, rfl, fun _ _ => rfl⟩
theorem upd_turned (h : w.mapTurned w' b) : Rg.Upd w b w' := by
  obtain ⟨es, clock, es', clock', hb, rfl⟩ := h
  exact ⟨rfl, rfl, rfl, by simp [setBlock], fun k hk => heap_setBlock_other hb _ hk⟩
theorem look_run {x : κ} (K : KeyK P t k e val lit G z) (h : MapO P k lit G w o f N) (hx : G x) (c : Bool) :
    (Instr.lookup t (.map o) (val x) c).run P w = .ok (if c then .tuple #[(f x).getD z, .bool (f x).isSome] else (f x).getD z) w := by
  cases o with
  | none =>
    have := Maps.look_nil (w := w) c K.K K.ht (K.zero w) (K.key hx)
    rw [this, h.1 x hx]
    rfl
  | some b =>
    obtain ⟨D, h⟩ := h
    have hat := h.at_ x hx
    obtain ⟨es, clock, hb, F, _, hD⟩ := h.own
    rcases Maps.fit_look c K.K K.ht (K.zero w) hb F (K.key hx) with ⟨hrun, _, hz0⟩ | ⟨e0, y, _, _, hrun, hRv, h3, _⟩
    · cases hf : f x with
      | none => rw [hrun]; cases c <;> rfl
      | some v =>
        rw [hf] at hat
        have h1 : Maps.has D (lit x) = true := hat.1
        rw [hD] at h1
        have h2 : Maps.has (DataW.map ((es.toList.map (rg P k heldE)).foldr DataW.insert [])) (lit x) = false := by
          exact Maps.has_false_of_atKey hz0
        rw [h2] at h1
        cases h1
    · have hy : y.1 = .held e0.val := by
        unfold heldE at hRv
        injection hRv with hRv
        rw [← hRv]
      cases hf : f x with
      | none =>
        rw [hf] at hat
        have h1 : Maps.has D (lit x) = false := hat
        have h2 : Maps.has (DataW.map ((es.toList.map (rg P k heldE)).foldr DataW.insert [])) (lit x) = true := Maps.has_true_of_atKey fun z => h3 z
        rw [hD, h2] at h1
        cases h1
      | some v =>
        rw [hf] at hat
        have h1 := hat.2 (.held z)
        rw [hD] at h1
        have h2 := h3 (.held z)
        have : DataW.held v = .held e0.val := by rw [← h1, ← hy]; exact h2
        injection this with this
        subst this
        rw [hrun]
        cases c <;> rfl
variable [DecidableEq κ]
/-- how many there are behind a store; behind a strike -/
def more (f : κ → Option Value) (x : κ) (N : Nat) : Nat := if (f x).isSome then N else N + 1
def fewer (f : κ → Option Value) (x : κ) (N : Nat) : Nat := if (f x).isSome then N - 1 else N
theorem has_is {o : Option Value} {l : Lit} (h : MapAt D l o) : Maps.has D l = o.isSome := by
  cases o with
  | none => exact h
  | some v => exact h.1
theorem put_at {x : κ} (K : KeyK P t k e val lit G z) (h : MapB P k lit G w b f N D) (hx : G x) (v : Value) (hO : w'.ownsMap P k heldE b (N + 1) (D.put (lit x) (.held v))) : MapB P k lit G w' b (setF f x (some v)) (more f x N) (D.put (lit x) (.held v)) := by
  have hD := h.own.isMap
  have hkl := K.K.key (K.key hx)
  have hs : Maps.size (D.put (lit x) (.held v)) = more f x N := by
    rw [Maps.size_put (h.own.tidy K.K), has_is (h.at_ x hx), h.size]
    rfl
  refine ⟨by rw [← hs]; exact own_tight hO, hs, fun y hy => ?_⟩
  unfold setF
  by_cases e : y = x
  · subst e
    rw [if_pos rfl]
    exact ⟨Maps.has_put_same hD hkl _, fun u => Maps.atKey_put_same hD hkl _ u⟩
  · have hne : lit y ≠ lit x := fun g => e (K.inj hy hx g)
    rw [if_neg e]
    have := h.at_ y hy
    cases hf : f y with
    | none => rw [hf] at this; exact (Maps.has_put_other hne _).trans this
    | some u => rw [hf] at this; exact ⟨(Maps.has_put_other hne _).trans this.1, fun q => (Maps.atKey_put_other hne _ q).trans (this.2 q)⟩
theorem put_run {x : κ} (K : KeyK P t k e val lit G z) (h : MapB P k lit G w b f N D) (hN : N < maxLen) (hx : G x) (v : Value) :
    ∃ w', (Instr.mapUpdate t (.map (some b)) (val x) v).run P w = .ok () w' ∧ MapB P k lit G w' b (setF f x (some v)) (more f x N) (D.put (lit x) (.held v)) ∧ Rg.Upd w b w' := by
  obtain ⟨w', h1, h2, h3⟩ := h.own.store K.K K.ht hN (K.key hx) (val := v) (d := .held v) (ps := []) rfl
  exact ⟨w', h1, put_at K h hx v h2, upd_turned h3⟩
theorem del_run {x : κ} (K : KeyK P t k e val lit G z) (h : MapB P k lit G w b f N D) (hx : G x) (ty : TypeId) :
    ∃ w', (Builtin.delete_ #[t, k] ty #[.map (some b), val x]).run P w = .ok (.tuple #[]) w' ∧ MapB P k lit G w' b (setF f x none) (fewer f x N) (D.del (lit x)) ∧ Rg.Upd w b w' := by
  obtain ⟨w', h1, h2, h3⟩ := h.own.drop K.K K.ht (K.key hx) ty
  have hs : Maps.size (D.del (lit x)) = fewer f x N := by
    have := Maps.size_del (k := lit x) (h.own.tidy K.K)
    rw [has_is (h.at_ x hx), h.size] at this
    unfold fewer
    split at this
    · rename_i g; rw [if_pos g]; omega
    · rename_i g; rw [if_neg g]; omega
  refine ⟨w', h1, ⟨by rw [← hs]; exact own_tight h2, hs, fun y hy => ?_⟩, upd_turned h3⟩
  unfold setF
  by_cases e : y = x
  · subst e
    rw [if_pos rfl]
    exact Maps.has_del_same
  · have hne : lit y ≠ lit x := fun g => e (K.inj hy hx g)
    rw [if_neg e]
    have := h.at_ y hy
    cases hf : f y with
    | none => rw [hf] at this; exact (Maps.has_del_other hne).trans this
    | some u => rw [hf] at this; exact ⟨(Maps.has_del_other hne).trans this.1, fun q => (Maps.atKey_del_other hne q).trans (this.2 q)⟩
omit [DecidableEq κ] in
theorem len_run (K : KeyK P t k e val lit G z) (h : MapO P k lit G w o f N) (ty : TypeId) : (Builtin.len_ #[t] ty #[.map o]).run P w = .ok (.int .i64 N) w := by
  cases o with
  | none => rw [h.2]; exact Maps.len_nil K.ht ty
  | some b =>
    obtain ⟨D, h⟩ := h
    rw [← h.size]
    exact h.own.len K.ht ty
/-- an entry is made (with what is there, or nought): then it may be stored into, whatever else has turned -/
theorem entry_run {x : κ} (K : KeyK P t k e val lit G z) (L : KeyLaw P k) (h : MapB P k lit G w b f N D) (hN : N < maxLen) (hx : G x) :
    ∃ (st : Nat) (w1 : World) (D1 : DataW Value), (Instr.mapEntry t (.map (some b)) (val x)).run P w = .ok (.tuple #[(f x).getD z, goInt st]) w1 ∧ MapB P k lit G w1 b (setF f x (some ((f x).getD z))) (more f x N) D1 ∧ Rg.Upd w b w1 ∧
      ∀ w2 v, w2.heap[b]? = w1.heap[b]? → ∃ w3 D3, (Instr.entryStore t (.map (some b)) (goInt st) v).run P w2 = .ok () w3 ∧ MapB P k lit G w3 b (setF f x (some v)) (more f x N) D3 ∧ Rg.Upd w2 b w3 := by
  have hkey := K.key hx
  obtain ⟨es, clock, hb, F, hs, hD⟩ := h.own
  obtain ⟨v0, st, es1, clock1, hrun, hv0, hsto⟩ := entry_then_store L K.ht K.zero hb F hkey
  have hlook := look_run K (o := some b) ⟨D, h⟩ hx false
  have hup : (Instr.mapUpdate t (.map (some b)) (val x) v0).run P w = .ok () (setBlock w b (.map es1 clock1)) := by
    rcases L.find w hkey es.toList F.keys with ⟨h1, h2⟩ | ⟨j, e0, h1, h2, h3⟩
    · have e1 : (Instr.mapEntry t (.map (some b)) (val x)).run P w = .ok (.tuple #[z, goInt clock]) (setBlock w b (.map (es.push ⟨val x, z, clock⟩) (clock + 1))) := by
        simp [Instr.mapEntry, run_underlying K.ht, MapKept.run_getObj_map hb, L.check w false hkey, h1, K.zero, MapKept.run_setObj_map _ hb, Result.andThen, setBlock]
      rw [hrun] at e1
      injection e1 with e1 e2
      injection e1 with e1
      have e3 : v0 = z := by injection e1 with e1; injection e1
      rw [e2, e3]
      simp [Instr.mapUpdate, run_underlying K.ht, MapKept.run_getObj_map hb, L.check w false hkey, h1, MapKept.run_setObj_map _ hb, Result.andThen, setBlock]
    · have hj : es[j]? = some e0 := by simpa using h2
      have hsame : es.modify j (fun e => { e with key := val x }) = es.modify j (fun e => { e with key := val x, val := e0.val }) := by
        apply Array.ext'
        rw [Array.toList_modify, Array.toList_modify, ChangeMaps.modify_eq_set _ _ _ _ h2, ChangeMaps.modify_eq_set _ _ _ _ h2]
      have e1 : (Instr.mapEntry t (.map (some b)) (val x)).run P w = .ok (.tuple #[e0.val, goInt e0.born]) (setBlock w b (.map (es.modify j (fun e => { e with key := val x })) clock)) := by
        simp [Instr.mapEntry, run_underlying K.ht, MapKept.run_getObj_map hb, L.check w false hkey, h1, hj, h3, L.stays w hkey, MapKept.run_setObj_map _ hb, Result.andThen, setBlock]
      rw [hrun] at e1
      injection e1 with e1 e2
      injection e1 with e1
      have e3 : v0 = e0.val := by injection e1 with e1; injection e1
      rw [e2, e3, hsame]
      simp [Instr.mapUpdate, run_underlying K.ht, MapKept.run_getObj_map hb, L.check w false hkey, h1, hj, h3, L.stays w hkey, MapKept.run_setObj_map _ hb, Result.andThen, setBlock]
  have hv : (f x).getD z = v0 := by
    rcases hv0 with ⟨e0, hm, hk, rfl⟩ | ⟨hn, rfl⟩
    · rcases Maps.fit_look false K.K K.ht (K.zero w) hb F hkey with ⟨_, hn, _⟩ | ⟨e1, y, hm1, hk1, hr1, _⟩
      · exact absurd hk (hn e0 hm)
      · rw [hlook] at hr1
        have h4 : (f x).getD z = e1.val := by injection hr1
        have h5 : e1 = e0 := entry_eq_of_key ((stamped_iff es clock).1 F.stamped).2.2 hm1 hm (hk1.trans hk.symm)
        rw [h4, h5]
    · rcases Maps.fit_look false K.K K.ht (K.zero w) hb F hkey with ⟨hr1, _, _⟩ | ⟨e1, y, hm1, hk1, _⟩
      · rw [hlook] at hr1
        injection hr1
      · exact absurd hk1 (hn e1 hm1)
  obtain ⟨w', p1, p2, p3⟩ := put_run K h hN hx v0
  rw [hup] at p1
  injection p1 with _ p1
  subst p1
  rw [hv]
  refine ⟨st, _, _, hrun, p2, p3, fun w2 v hw2 => ?_⟩
  have hb1 : (setBlock w b (.map es1 clock1)).heap[b]? = some (.map es1 clock1) := heap_setBlock_same hb _
  obtain ⟨es', clock', s1, s2⟩ := hsto w2 v (hw2.trans hb1)
  obtain ⟨w'', q1, q2, q3⟩ := put_run K h hN hx v
  rw [s2] at q1
  injection q1 with _ q1
  subst q1
  exact ⟨_, _, s1, q2.same ((heap_setBlock_same (hw2.trans hb1) _).trans (heap_setBlock_same hb _).symm), ⟨rfl, rfl, rfl, by simp [setBlock], fun k hk => heap_setBlock_other (hw2.trans hb1) _ hk⟩⟩
end
end Bd
end Go.Proofs.YtlembfhdljmcoaaDoor
