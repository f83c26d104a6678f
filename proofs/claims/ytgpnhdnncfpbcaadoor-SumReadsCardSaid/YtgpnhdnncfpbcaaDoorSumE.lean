/-
  The contract of sum.Of.
-/
import Derived.Test.YtgpnhdnncfpbcaaDoorSumD
namespace Go.Proofs.YtgpnhdnncfpbcaaDoor
open Go.RowKit

namespace Sm
open Sh
/-- the cells of an array of bytes -/
def kc (k : List UInt8) : Array Value := (k.map fun b => Value.int .u8 b.toNat).toArray
theorem kc_size (k : List UInt8) : (kc k).size = k.length := by simp [kc]
theorem kc_one (k : List UInt8) : (kc k).all (·.oneCell') = true := by
  rw [Array.all_eq_true]
  intro i hi
  simp [kc]
  rfl
theorem info_sum : (Tryd.prog.info? 27).map (·.size) = some 32 := by kernel_rfl
theorem info_kc (k : List UInt8) (h : k.length = 32) : (Tryd.prog.info? 27).map (·.size) = some (kc k).size := by rw [kc_size, h]; exact info_sum
/-- the sum of nothing -/
def zk : List UInt8 := List.replicate 32 0
theorem zk_length : zk.length = 32 := rfl
theorem run_alloc_sum (ev : Operand → Value) (o : Oper) (ho : o.op = .alloc 27) (w : World) (n : Nat) (hn : w.heap.size = n) :
    (execOp ev o).run Tryd.prog w = .ok (.value (.pointer (some ⟨n, 0, none⟩))) (w.alloc (.cells (kc zk) 27)) := by
  subst hn
  unfold execOp
  rw [ho]
  kernel_rfl
theorem kc_row {w : World} {g : Nat} {t : TypeId} (l : List UInt8) {f : Nat → Value} (h : w.rowIs g t 32 f) (hl : l.length = 32) (hf : ∀ j, j < 32 → f j = .int .u8 (l.getD j 0).toNat) : w.heap[g]? = some (.cells (kc l) t (0, 0)) := by
  obtain ⟨c, hg, hs, hc⟩ := h
  have : c = kc l := by
    apply Array.ext
    · rw [hs, kc_size, hl]
    · intro i hi h2
      have h1 := hc i (by omega)
      rw [hf i (by omega), Array.getElem?_eq_getElem hi] at h1
      have h3 := Option.some.inj h1
      rw [h3]
      have h4 : i < l.length := by omega
      simp [kc, List.getD, h4]
  rw [hg, this]
/-- a row of zeros as cells -/
theorem zk_row {w : World} {g : Nat} {t : TypeId} (h : w.heap[g]? = some (.cells (kc zk) t (0, 0))) : w.rowIs g t 32 (fun _ => .int .u8 0) :=
  ⟨_, h, rfl, fun i hi => by
    show ((zk.map fun b => Value.int .u8 b.toNat).toArray)[i]? = _
    have hz : zk[i]? = some 0 := by
      unfold zk
      rw [List.getElem?_replicate, if_pos hi]
    rw [List.getElem?_toArray, List.getElem?_map, hz]
    rfl⟩
theorem start_lt : ∀ x ∈ Sh.start, x < 4294967296 := by decide
/-- the state behind the whole blocks, and behind the end -/
theorem hash_two (s : ByteArray) (m : Nat) (hm : m = s.size - s.size % 64) :
    mixK ((s.extract m s.size).data.toList ++ endL s.size) (mixK (s.extract 0 m).data.toList Sh.start ((s.extract 0 m).size / 64)) (((s.extract m s.size).data.toList ++ endL s.size).length / 64) = hashK (fillL s.data.toList) ((fillL s.data.toList).length / 64) := by
  have e1 : (s.extract 0 m).data.toList = s.data.toList.take m := by simp
  have e2 : (s.extract m s.size).data.toList = s.data.toList.drop m := by
    simp only [ByteArray.data_extract, Array.toList_extract, List.extract_eq_take_drop]
    rw [List.take_of_length_le (by simp)]
  have hl : s.data.toList.length = s.size := by simp
  have e3 : (s.extract 0 m).size = m := by simp; omega
  have e4 : fillL s.data.toList = s.data.toList.take m ++ (s.data.toList.drop m ++ endL s.size) := by
    rw [fillL_end, hl, ← List.append_assoc, List.take_append_drop]
  have hmd := fillL_mod s.data.toList
  rw [e1, e2, e3, ← mixK_start, e4]
  rw [e4] at hmd
  have hlen : (s.data.toList.take m ++ (s.data.toList.drop m ++ endL s.size)).length = m + (s.data.toList.drop m ++ endL s.size).length := by
    rw [List.length_append, List.length_take, hl]
    congr 1
    omega
  rw [hlen] at hmd ⊢
  rw [show (m + (s.data.toList.drop m ++ endL s.size).length) / 64 = m / 64 + (s.data.toList.drop m ++ endL s.size).length / 64 by omega]
  exact (mixK_more _ _ (m / 64) (by rw [List.length_take, hl]; omega) _ _).symm

set_option maxRecDepth 100000 in
set_option maxHeartbeats 8000000 in
theorem of_any (s : ByteArray) (hs : s.size ≤ 900000) (w : World) (hK : ∀ i, i < 64 → w.cell? ⟨0, i, none⟩ = some (.int .u32 (kN i : Nat))) :
    Calls Tryd.prog 8 #[.string s] w fun e w' => e = .returned (.agg (kc (sumL s.data.toList))) ∧ Below w.heap.size w w' := by
  have h0 : 0 < w.heap.size := World.block_lt_of_cell? w _ (hK 0 (by omega))
  have HK := Lib.hid hK
  have HEnd := Lib.hid (end_any s.size (by omega))
  obtain ⟨m, hm⟩ : ∃ m, s.size - s.size % 64 = m := ⟨_, rfl⟩
  have hmi : (s.size : Int) - s.size % 64 = m := by omega
  have hml : m ≤ s.size := by omega
  have hF := hash_two s m hm.symm
  have HM1 := Lib.hid (mixK_length (s.extract 0 m).data.toList Sh.start rfl ((s.extract 0 m).size / 64))
  have hT1 := mixK_lt (s.extract 0 m).data.toList Sh.start start_lt ((s.extract 0 m).size / 64)
  have HX1 := Lib.hid (fun W hk => mix_any Sh.start rfl start_lt (s.extract 0 m) (by simp; omega) W hk)
  obtain ⟨M1, hM1⟩ : ∃ M, mixK (s.extract 0 m).data.toList Sh.start ((s.extract 0 m).size / 64) = M := ⟨_, rfl⟩
  rw [hM1] at HM1 hT1 hF HX1
  obtain ⟨s2, hs2⟩ : ∃ s2, s.extract m s.size ++ ⟨(endL s.size).toArray⟩ = s2 := ⟨_, rfl⟩
  have hd2 : s2.data.toList = (s.extract m s.size).data.toList ++ endL s.size := by rw [← hs2, ByteArray.data_append]; simp
  have hz2 : s2.size = ((s.extract m s.size).data.toList ++ endL s.size).length := by rw [← hd2]; simp
  have hz : zerosN s.size < 64 := Nat.mod_lt _ (by omega)
  have HX2 := Lib.hid (fun W hk => mix_any M1 HM1.out hT1 s2 (by rw [hz2, List.length_append, endL_length]; simp; omega) W hk)
  rw [← hd2, show s2.data.toList.length = s2.size by simp] at hF
  rw [hF] at HX2
  have HM2 := Lib.hid (hashK_length (fillL s.data.toList) ((fillL s.data.toList).length / 64))
  have HT2 := Lib.hid (hashK_lt (fillL s.data.toList) ((fillL s.data.toList).length / 64))
  have HS := sec (show outK (hashK (fillL s.data.toList) ((fillL s.data.toList).length / 64)) 32 = sumL s.data.toList from rfl)
  obtain ⟨M2, hM2⟩ : ∃ M, hashK (fillL s.data.toList) ((fillL s.data.toList).length / 64) = M := ⟨_, rfl⟩
  rw [hM2] at HX2 HM2 HT2 HS
  have HS2 := Lib.hid hs2
  clear hT1 hF hd2 hz2 hz hM2 hs2
  clear hK hm hM1
  go_enter Tryd.func8, Tryd.ntmps8
  go_upto_region 3 with (first | (refine wpList_run rfl _ _ (run_alloc_sum _ _ rfl _ w.heap.size rfl) ?_) | (refine wpList_run rfl _ _ (run_alloc_8n _ _ rfl _ (w.heap.size + 1) (by simp)) ?_) | (refine wpList_store_rowTo rfl 40 _ _ rfl rfl (w.heap.size + 1) (ac Sh.start) rfl rfl 40 (za 8) (by have := heap_alloc_new (w.alloc (.cells (kc zk) 27)) (.cells (za 8) 40); simpa using this) info_8 rfl (ac_one _) ?_))
  have h2 : Rg.Own (((w.alloc (.cells (kc zk) 27)).alloc (.cells (za 8) 40)).setRow (w.heap.size + 1) (ac Sh.start)) w.heap.size (kc zk) 27 :=
    ((Rg.Own.new w _ _).below ((Below.refl _ _).alloc (Nat.le_refl _) _)).upd (Rg.Upd.set _ _ _) (by omega)
  have h3 : Rg.Own (((w.alloc (.cells (kc zk) 27)).alloc (.cells (za 8) 40)).setRow (w.heap.size + 1) (ac Sh.start)) (w.heap.size + 1) (ac Sh.start) 40 :=
    ⟨by simp, setRow_heap _ _ _ _ _ _ (by have := heap_alloc_new (w.alloc (.cells (kc zk) 27)) (.cells (za 8) 40); simpa using this)⟩
  have hB0 : Below w.heap.size w (((w.alloc (.cells (kc zk) 27)).alloc (.cells (za 8) 40)).setRow (w.heap.size + 1) (ac Sh.start)) :=
    below_row (((Below.refl _ _).alloc (Nat.le_refl _) _).alloc (by simp) _) (by omega) _
  generalize (((w.alloc (.cells (kc zk) 27)).alloc (.cells (za 8) 40)).setRow (w.heap.size + 1) (ac Sh.start)) = W0 at h2 h3 hB0 ⊢
  have ge2 : w.heap.size ≤ w.heap.size := Nat.le_refl _
  have ge3 : w.heap.size ≤ w.heap.size + 1 := by omega
  have ne2_3 : w.heap.size ≠ w.heap.size + 1 := by omega
  refine wp_region_noPanic ?_
  refine wp_region_held_drew (S := fun w' => Below w.heap.size w w') (by kernel_rfl) (hB0.drew) (fun hHeld => ?_)
  replace h2 := h2.drew
  replace h3 := h3.drew
  refine Rg.takeL (i := 1) (v := ?_) rfl (by kernel_rfl) (by kernel_rfl) (by kernel_rfl) (fun _ _ _ h => h) (Or.inl ⟨by rfl, ?_⟩) (by assumption) ?_
  rotate_left
  · (intro wz hSw; (try dsimp only at hSw); go_simp <;> with_reducible rfl)
  try simp only [Act.put, List.setIfInBounds_toArray, List.set_cons_zero, List.set_cons_succ]
  refine Rg.takeL (i := 2) (v := ?_) rfl (by kernel_rfl) (by kernel_rfl) (by kernel_rfl) (fun _ _ _ h => h) (Or.inl ⟨by rfl, ?_⟩) (by assumption) ?_
  rotate_left
  · (intro wz hSw; (try dsimp only at hSw); go_simp <;> with_reducible rfl)
  try simp only [Act.put, List.setIfInBounds_toArray, List.set_cons_zero, List.set_cons_succ]
  refine Rg.takeL (i := 3) (v := ?_) rfl (by kernel_rfl) (by kernel_rfl) (by kernel_rfl) (fun _ _ _ h => h) (Or.inl ⟨by rfl, ?_⟩) (by assumption) ?_
  rotate_left
  · (intro wz hSw; (try dsimp only at hSw); go_simp <;> with_reducible rfl)
  try simp only [Act.put, List.setIfInBounds_toArray, List.set_cons_zero, List.set_cons_succ]
  refine wpAnyH_ready (rs := [0]) (by kernel_rfl) (by simp) ?_
  refine Rg.readyL (i := 0) rfl (fun K hK => ?_)
  refine Rg.meet (by rfl) _ _ (run_load_row8 _ _ (w.heap.size + 1) _ Sh.start ?_ h3.2 rfl) ?_
  · exact ⟨_, rfl, rfl⟩
  refine hK.out _ _ ?_ (fun hHeld => ?_)
  · exact hHeld
  clear hK K
  try simp only [Act.put, List.setIfInBounds_toArray, List.set_cons_zero, List.set_cons_succ]
  refine wpAnyH_ready (rs := [4]) (by kernel_rfl) (by simp) ?_
  refine Rg.readyL (i := 4) rfl (fun K hK => ?_)
  go_simp
  go_at_call 18
  (with_reducible refine (HX1.out _ (fun i hi => (hHeld.cell (p := ⟨0, i, none⟩) h0).trans (HK.out i hi))).mono ?_)
  rintro e wv0 ⟨rfl, hbx⟩
  replace h2 := h2.below hbx
  replace h3 := h3.below hbx
  refine hK.out _ _ ?_ (fun hHeld => ?_)
  · exact Below.trans hHeld (hbx.mono hHeld.size)
  clear hK K
  try simp only [Act.put, List.setIfInBounds_toArray, List.set_cons_zero, List.set_cons_succ]
  refine wpAnyH_ready (rs := [5]) (by kernel_rfl) (by simp) ?_
  refine Rg.readyL (i := 5) rfl (fun K hK => ?_)
  refine Rg.meetStore (by rfl) h3 40 (ac M1) ⟨_, _, rfl, rfl, rfl⟩ (by rw [ac_size, HM1.out]; exact info_8) (by rw [ac_size, ac_size, HM1.out]; exact rfl) (ac_one _) ?_
  rintro wv1 hn hu
  replace h2 := h2.upd hu ne2_3
  refine hK.out _ _ ?_ (fun hHeld => ?_)
  · exact hu.below hHeld ge3
  replace h3 := hn
  clear hK K hn hu
  try simp only [Act.put]
  refine wpAnyH_done (by kernel_rfl) ?_ _
  refine NoPanic.normal ?_
  go_wp2_with fail
  have hB1 := hHeld
  clear hHeld
  go_cut [3] (fun p wx => p = .pointer (some ⟨w.heap.size + 1, 0, none⟩) ∧ Hid (Rg.Own wx w.heap.size (kc zk) 27) ∧ Hid (Rg.Own wx (w.heap.size + 1) (ac M2) 40) ∧ Hid (Below w.heap.size w wx))
  case first =>
    have hs2 := HS2.out
    have HCC : Hid (¬ 9223372036854775807 < s.size - m + (endL s.size).length) := Lib.hid (by have hz : zerosN s.size < 64 := Nat.mod_lt _ (by omega); rw [endL_length]; omega)
    refine wp_region_noPanic ?_
    refine wp_region_held_drew (S := fun w' => Below w.heap.size w w') (by kernel_rfl) (hB1.drew) (fun hHeld => ?_)
    replace h2 := h2.drew
    replace h3 := h3.drew
    refine Rg.takeL (i := 1) (v := ?_) rfl (by kernel_rfl) (by kernel_rfl) (by kernel_rfl) (fun _ _ _ h => h) (Or.inl ⟨by rfl, ?_⟩) (by assumption) ?_
    rotate_left
    · (intro wz hSw; (try dsimp only at hSw); go_simp <;> with_reducible rfl)
    try simp only [Act.put, List.setIfInBounds_toArray, List.set_cons_zero, List.set_cons_succ]
    refine Rg.takeL (i := 2) (v := ?_) rfl (by kernel_rfl) (by kernel_rfl) (by kernel_rfl) (fun _ _ _ h => h) (Or.inl ⟨by rfl, ?_⟩) (by assumption) ?_
    rotate_left
    · (intro wz hSw; (try dsimp only at hSw); go_simp <;> with_reducible rfl)
    try simp only [Act.put, List.setIfInBounds_toArray, List.set_cons_zero, List.set_cons_succ]
    refine Rg.takeL (i := 3) (v := ?_) rfl (by kernel_rfl) (by kernel_rfl) (by kernel_rfl) (fun _ _ _ h => h) (Or.inl ⟨by rfl, ?_⟩) (by assumption) ?_
    rotate_left
    · (intro wz hSw; (try dsimp only at hSw); go_simp <;> with_reducible rfl)
    try simp only [Act.put, List.setIfInBounds_toArray, List.set_cons_zero, List.set_cons_succ]
    refine Rg.takeL (i := 4) (v := ?_) rfl (by kernel_rfl) (by kernel_rfl) (by kernel_rfl) (fun _ _ _ h => h) (Or.inl ⟨by rfl, ?_⟩) (by assumption) ?_
    rotate_left
    · (intro wz hSw; (try dsimp only at hSw); go_simp <;> with_reducible rfl)
    try simp only [Act.put, List.setIfInBounds_toArray, List.set_cons_zero, List.set_cons_succ]
    refine Rg.takeL (i := 5) (v := ?_) rfl (by kernel_rfl) (by kernel_rfl) (by kernel_rfl) (fun _ _ _ h => h) (Or.inl ⟨by rfl, ?_⟩) (by assumption) ?_
    rotate_left
    · (intro wz hSw; (try dsimp only at hSw); go_simp <;> with_reducible rfl)
    try simp only [Act.put, List.setIfInBounds_toArray, List.set_cons_zero, List.set_cons_succ]
    refine wpAnyH_ready (rs := [0, 6]) (by kernel_rfl) (by simp) ?_
    refine Rg.readyC (i := 0) rfl (fun K hK => ?_) (Rg.readyL (i := 6) rfl (fun K hK => ?_))
    · refine Rg.meet (by rfl) _ _ (run_load_row8 _ _ (w.heap.size + 1) _ M1 ?_ h3.2 HM1.out) ?_
      · exact ⟨_, rfl, rfl⟩
      refine hK.out _ _ ?_ (fun hHeld => ?_)
      · exact hHeld
      clear hK K
      try simp only [Act.put, List.setIfInBounds_toArray, List.set_cons_zero, List.set_cons_succ]
      refine wpAnyH_ready (rs := [6]) (by kernel_rfl) (by simp) ?_
      refine Rg.readyL (i := 6) rfl (fun K hK => ?_)
      go_simp
      go_at_call 19
      (with_reducible refine (HEnd.out _).mono ?_)
      rintro e wv0 ⟨rfl, hbx⟩
      replace h2 := h2.below hbx
      replace h3 := h3.below hbx
      refine hK.out _ _ ?_ (fun hHeld => ?_)
      · exact Below.trans hHeld (hbx.mono hHeld.size)
      clear hK K
      try simp only [Act.put, List.setIfInBounds_toArray, List.set_cons_zero, List.set_cons_succ]
      refine Rg.takeL (i := 7) (v := ?_) rfl (by kernel_rfl) (by kernel_rfl) (by kernel_rfl) (fun _ _ _ h => h) (Or.inl ⟨by rfl, ?_⟩) (by assumption) ?_
      rotate_left
      · (intro wz hSw; (have hcc := HCC.out); go_simp <;> with_reducible rfl)
      try simp only [Act.put, List.setIfInBounds_toArray, List.set_cons_zero, List.set_cons_succ]
      refine wpAnyH_ready (rs := [8]) (by kernel_rfl) (by simp) ?_
      refine Rg.readyL (i := 8) rfl (fun K hK => ?_)
      go_simp
      go_at_call 18
      (with_reducible refine (HX2.out _ (fun i hi => (hHeld.cell (p := ⟨0, i, none⟩) h0).trans (HK.out i hi))).mono ?_)
      rintro e wv1 ⟨rfl, hbx⟩
      replace h2 := h2.below hbx
      replace h3 := h3.below hbx
      refine hK.out _ _ ?_ (fun hHeld => ?_)
      · exact Below.trans hHeld (hbx.mono hHeld.size)
      clear hK K
      try simp only [Act.put, List.setIfInBounds_toArray, List.set_cons_zero, List.set_cons_succ]
      refine wpAnyH_ready (rs := [9]) (by kernel_rfl) (by simp) ?_
      refine Rg.readyL (i := 9) rfl (fun K hK => ?_)
      refine Rg.meetStore (by rfl) h3 40 (ac M2) ⟨_, _, rfl, rfl, rfl⟩ (by rw [ac_size, HM2.out]; exact info_8) (by rw [ac_size, ac_size, HM2.out]; exact HM1.out) (ac_one _) ?_
      rintro wv2 hn hu
      replace h2 := h2.upd hu ne2_3
      refine hK.out _ _ ?_ (fun hHeld => ?_)
      · exact hu.below hHeld ge3
      replace h3 := hn
      clear hK K hn hu
      try simp only [Act.put]
      refine wpAnyH_done (by kernel_rfl) ?_ _
      refine NoPanic.normal ?_
      go_wp2_with fail
      go_meet
      exact ⟨rfl, Lib.hid h2, Lib.hid h3, Lib.hid hHeld⟩
    · go_simp
      go_at_call 19
      (with_reducible refine (HEnd.out _).mono ?_)
      rintro e wv0 ⟨rfl, hbx⟩
      replace h2 := h2.below hbx
      replace h3 := h3.below hbx
      refine hK.out _ _ ?_ (fun hHeld => ?_)
      · exact Below.trans hHeld (hbx.mono hHeld.size)
      clear hK K
      try simp only [Act.put, List.setIfInBounds_toArray, List.set_cons_zero, List.set_cons_succ]
      refine Rg.takeL (i := 7) (v := ?_) rfl (by kernel_rfl) (by kernel_rfl) (by kernel_rfl) (fun _ _ _ h => h) (Or.inl ⟨by rfl, ?_⟩) (by assumption) ?_
      rotate_left
      · (intro wz hSw; (have hcc := HCC.out); go_simp <;> with_reducible rfl)
      try simp only [Act.put, List.setIfInBounds_toArray, List.set_cons_zero, List.set_cons_succ]
      refine wpAnyH_ready (rs := [0]) (by kernel_rfl) (by simp) ?_
      refine Rg.readyL (i := 0) rfl (fun K hK => ?_)
      refine Rg.meet (by rfl) _ _ (run_load_row8 _ _ (w.heap.size + 1) _ M1 ?_ h3.2 HM1.out) ?_
      · exact ⟨_, rfl, rfl⟩
      refine hK.out _ _ ?_ (fun hHeld => ?_)
      · exact hHeld
      clear hK K
      try simp only [Act.put, List.setIfInBounds_toArray, List.set_cons_zero, List.set_cons_succ]
      refine wpAnyH_ready (rs := [8]) (by kernel_rfl) (by simp) ?_
      refine Rg.readyL (i := 8) rfl (fun K hK => ?_)
      go_simp
      go_at_call 18
      (with_reducible refine (HX2.out _ (fun i hi => (hHeld.cell (p := ⟨0, i, none⟩) h0).trans (HK.out i hi))).mono ?_)
      rintro e wv1 ⟨rfl, hbx⟩
      replace h2 := h2.below hbx
      replace h3 := h3.below hbx
      refine hK.out _ _ ?_ (fun hHeld => ?_)
      · exact Below.trans hHeld (hbx.mono hHeld.size)
      clear hK K
      try simp only [Act.put, List.setIfInBounds_toArray, List.set_cons_zero, List.set_cons_succ]
      refine wpAnyH_ready (rs := [9]) (by kernel_rfl) (by simp) ?_
      refine Rg.readyL (i := 9) rfl (fun K hK => ?_)
      refine Rg.meetStore (by rfl) h3 40 (ac M2) ⟨_, _, rfl, rfl, rfl⟩ (by rw [ac_size, HM2.out]; exact info_8) (by rw [ac_size, ac_size, HM2.out]; exact HM1.out) (ac_one _) ?_
      rintro wv2 hn hu
      replace h2 := h2.upd hu ne2_3
      refine hK.out _ _ ?_ (fun hHeld => ?_)
      · exact hu.below hHeld ge3
      replace h3 := hn
      clear hK K hn hu
      try simp only [Act.put]
      refine wpAnyH_done (by kernel_rfl) ?_ _
      refine NoPanic.normal ?_
      go_wp2_with fail
      go_meet
      exact ⟨rfl, Lib.hid h2, Lib.hid h3, Lib.hid hHeld⟩
  case rest =>
    obtain ⟨rfl, H2, H3, HB⟩ := hcut
    obtain ⟨W, rfl⟩ : ∃ W : World, W = wc := ⟨_, rfl⟩
    have h3 := H3.out
    have H3' : Hid ((W.alloc (.cells (kc zk) 27)).heap[w.heap.size + 1]? = some (.cells (ac M2) 40 (0, 0))) := Lib.hid ((Lib.alloc_old _ _ _ h3.1).trans h3.2)
    have HR0 : Hid ((W.alloc (.cells (kc zk) 27)).rowIs W.heap.size 27 32 (fun j => .int .u8 (if j < 4 * 0 then wByte M2 j else 0 : Nat))) := Lib.hid ((zk_row (heap_alloc_new _ _)).congr (fun j _ => by rw [if_neg (by omega)]; rfl))
    have HIx := Lib.hid (fun j hj wz => run_index_ac M2 j hj HM2.out wz)
    have HLx := Lib.hid (fun j => getD_lt HT2.out j)
    obtain ⟨A, hA⟩ : ∃ A, ac M2 = A := ⟨_, rfl⟩
    have HAs : Hid (A.size = 8) := Lib.hid (by rw [← hA, ac_size, HM2.out])
    rw [hA] at H3' HIx
    clear h3 hA HEnd HX1 HX2 hmi h2 hB1 hHeld hbx
    go_wp2_with (first | (refine wpList_run rfl _ _ (run_alloc_sum _ _ rfl _ _ rfl) ?_) | (refine wpList_load_row rfl _ _ rfl (w.heap.size + 1) rfl 40 A (0, 0) _ H3'.out Tryd.underlying40 rfl (by rw [HAs.out]; exact info_8) ?_))
    go_loopw [30] (fun i wx => ∃ q : Nat, q ≤ 8 ∧ i = .int .i64 q ∧ Hid (wx.rowIs W.heap.size 27 32 (fun j => .int .u8 (if j < 4 * q then wByte M2 j else 0 : Nat))) ∧ Hid (Below W.heap.size W wx)) (fun i _ => 8 - (intOf i).toNat)
    case atStart => exact ⟨0, by omega, rfl, HR0, Lib.hid ((Below.refl _ _).alloc (Nat.le_refl _) _)⟩
    case round =>
      clear HR0
      obtain ⟨q, hq, rfl, HR, HBx⟩ := hrel
      by_cases hlt : q < 8
      · have hix := HIx.out q hlt
        have hxl := HLx.out q
        have HLay := lay_any W.heap.size (4 * q) 4 (32 - 4 * q) (M2.getD q 0) 32 27 _ wr HR.out (by omega) (by omega)
        have HRn : Hid ((laidN wr W.heap.size (4 * q) 4 (M2.getD q 0) 4).rowIs W.heap.size 27 32 (fun j => .int .u8 (if j < 4 * (q + 1) then wByte M2 j else 0 : Nat))) := Lib.hid ((laidN_row HR.out 4).congr (fun j _ => by
          by_cases h1 : 4 * q ≤ j ∧ j < 4 * q + 4
          · rw [if_pos h1, if_pos (by omega)]
            unfold upB wByte
            rw [show j / 4 = q by omega, show 4 - 1 - (j - 4 * q) = 3 - j % 4 by omega]
          · rw [if_neg h1]
            by_cases h2 : j < 4 * q
            · rw [if_pos h2, if_pos (by omega)]
            · rw [if_neg h2, if_neg (by omega)]))
        have HBn : Hid (Below W.heap.size W (laidN wr W.heap.size (4 * q) 4 (M2.getD q 0) 4)) := Lib.hid (laidN_below HBx.out (Nat.le_refl _) 4)
        obtain ⟨x, hx⟩ : ∃ x, M2.getD q 0 = x := ⟨_, rfl⟩
        rw [hx] at hix hxl HLay HRn HBn
        have HLay := Lib.hid HLay
        clear hx
        have l0 : (0 : Int) ≤ 4 * (q : Int) := by omega
        have l1 : 4 * (q : Int) ≤ 4 * (q : Int) + 4 := by omega
        have l2 : 4 * (q : Int) + 4 ≤ 32 := by omega
        have l3 : (4 * (q : Int)).toNat = 4 * q := by omega
        have l4 : (4 * (q : Int) + 4).toNat = 4 * q + 4 := by omega
        have l5 : ¬ 32 = 4 * q := by omega
        go_wp2_with fail
        refine HLay.out.mono ?_
        rintro e w3 ⟨rfl, rfl⟩
        clear l0 l1 l2 l3 l4 l5 HLay hix
        go_wp2
        go_roundw
        case rel => exact ⟨q + 1, by omega, by go_num, HRn, HBn⟩
        case measure => simp [intOf]; omega
      · obtain rfl : q = 8 := by omega
        have HF : Hid (wr.heap[W.heap.size]? = some (.cells (kc (sumL s.data.toList)) 27 (0, 0))) := Lib.hid (kc_row _ HR.out (sumL_length _) (fun j hj => by
          rw [if_pos (by omega), ← HS.out]
          simp [outK, List.getD, hj]
          unfold wByte
          omega))
        have H22 : Hid (Rg.Own wr w.heap.size (kc zk) 27) := Lib.hid (H2.out.below HBx.out)
        have HB2 : Hid (Below w.heap.size w wr) := Lib.hid (HB.out.trans (HBx.out.mono HB.out.size))
        have hkl := sumL_length s.data.toList
        obtain ⟨K, hK⟩ : ∃ K, sumL s.data.toList = K := ⟨_, rfl⟩
        have HKK := sec hK
        rw [hK] at hkl HF
        have HKL := Lib.hid hkl
        clear hK hkl HR HIx HLx
        go_wp2_with (first | (refine wpList_load_row rfl _ _ rfl W.heap.size rfl 27 (kc K) (0, 0) _ HF.out Tryd.underlying27 rfl (info_kc K HKL.out) ?_) | (refine wpList_store_rowTo rfl 27 _ _ rfl rfl _ (kc K) rfl rfl 27 (kc zk) H22.out.2 (info_kc K HKL.out) (by rw [kc_size, kc_size, HKL.out]; rfl) (kc_one _) ?_))
        exact bodyPost_ret (results_cell_row rfl _ _ w.heap.size 27 (kc K) (0, 0) _ rfl (setRow_heap _ _ _ _ _ _ H22.out.2) Tryd.underlying27 rfl (info_kc K HKL.out)) rfl ⟨by rw [HKK.out], below_row HB2.out (by omega) _⟩
end Sm
end Go.Proofs.YtgpnhdnncfpbcaaDoor
