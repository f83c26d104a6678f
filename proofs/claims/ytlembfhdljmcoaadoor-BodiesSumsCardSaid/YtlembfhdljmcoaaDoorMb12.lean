/-
  Layer 12: the contract of put: a text under its sum.
-/
import Derived.Test.YtlembfhdljmcoaaDoorMb11
set_option linter.unusedSimpArgs false
set_option linter.unusedVariables false
namespace Go.Proofs.YtlembfhdljmcoaaDoor
set_option maxRecDepth 20000
open Go.RowKit Go.Maps

namespace Bd
open Rf Sm
section
variable {bb : Nat} {tm hm : Option Nat} {M : Int → Option Nat} {w : World} {e : Int} {tw : Option (ByteArray × ByteArray)}
theorem hold_any {ft : List UInt8 → Option Value} {Nt : Nat} {fi : Int → List UInt8 → Option Value} {Ni : Int → Nat} {Nh : Nat} {n : Int} {x : List UInt8} {v : Int} (s : ByteArray) (m : Nat) (g : Sg bb tm hm M ft Nt fi Ni Nh n tw w) (he : W64 e) (hx : L32 x) (hNt : Nt < maxLen) (hNi : Ni e < maxLen) (hNh : Nh < maxLen) (hv : (fi e x).getD (.int .i64 0) = .int .i64 v) (hv0 : 0 ≤ v) (hv1 : v ≤ 1000000) :
    Calls Tryd.prog 37 #[.pointer (some ⟨bb, 0, none⟩), .int .i64 e, .agg (kc x), .agg (bodyA s m)] w (HoldP bb tm hm M ft Nt fi Ni Nh n tw e x s m v w) := by
  cases tm with
  | none =>
    obtain rfl := g.both.1 rfl
    exact hold_a s m g he hx hNt hNi hNh hv hv0 hv1
  | some t =>
    cases hm with
    | none => exact absurd (g.both.2 rfl) (fun h => by cases h)
    | some h =>
      cases hM : M e with
      | none => exact hold_b s m t h g hM he hx hNt hNi hNh hv hv0 hv1
      | some mm => exact hold_c s m t h mm g hM he hx hNt hNi hNh hv hv0 hv1
/-- what put tells and does, where the epoch and the text are right -/
def PutQ (bb : Nat) (tm hm : Option Nat) (M : Int → Option Nat) (l : List Rw) (tw : Option (ByteArray × ByteArray)) (e : Int) (s : ByteArray) (w : World) (en : Ending) (w' : World) : Prop :=
  ∃ r l' tw' tm' hm' M', en = .returned (.int .i64 r) ∧ ((r = 16 ∧ l' = l ∧ ∃ x ∈ textsR l, x ≠ s ∧ sumB x = sumB s ∧ tw' = some (x, s)) ∨ ((∀ x ∈ textsR l, sumB x = sumB s → x = s) ∧ r = 0 ∧ l' = putR l e s ∧ tw' = tw)) ∧ St bb tm' hm' M' l' tw' w' ∧ FrK (KS bb tm hm M) (KS bb tm' hm' M') w w'
theorem st_twin {l : List Rw} {Nh : Nat} {w1 w2 : World} (h : St bb tm hm M l tw w) (g : Sg bb tm hm M (ftx l) (textsR l).length (fix_ l) (exN l) Nh (sizeT (textsR l)) tw w1) (hN : Nh = (epochsR l).length) (hu : Rg.Upd w1 bb w2) {tw' : Option (ByteArray × ByteArray)} (ho : Rg.Own w2 bb (objA tm hm (sizeT (textsR l)) tw') 56) : St bb tm hm M l tw' w2 :=
  ⟨⟨Nh, hN, g.cells hu ho⟩, h.u, h.o, h.full⟩
set_option maxHeartbeats 8000000 in
theorem put_clash {l : List Rw} {s : ByteArray} (h : St bb tm hm M l tw w) (hF : Bd.Fine 40 l) (he0 : 0 ≤ e) (he1 : e ≤ 1048576) (hs0 : 32 ≤ s.size) (hs1 : s.size ≤ 200) {y : ByteArray} (hy : y ∈ textsR l) (hne : y ≠ s) (hsum : sumB y = sumB s) :
    Calls Tryd.prog 26 #[.pointer (some ⟨bb, 0, none⟩), .int .i64 e, .string s, .agg (kc (sumB s))] w (PutQ bb tm hm M l tw e s w) := by
  have hok := hF.ok
  obtain ⟨Nh, hNe, g⟩ := h.g
  have hNh : Nh ≤ l.length := by rw [hNe]; exact epochs_le l
  have HNe := Lib.hid hNe
  have HSt := Lib.hid h
  have HF := Lib.hid hF
  have HE := Lib.hid (w64_in he0 he1)
  have HX : Hid (L32 (sumB s)) := Lib.hid (sumB_length s)
  have HNh := Lib.hid hNh
  have HSz : Hid (32 ≤ s.size ∧ s.size ≤ 200) := Lib.hid ⟨hs0, hs1⟩
  have HNL := Lib.hid hF.len
  have HY : Hid (y ∈ textsR l ∧ y ≠ s ∧ sumB y = sumB s) := Lib.hid ⟨hy, hne, hsum⟩
  have hyr := mem_texts.1 hy
  have HVt : Hid ((ftx l (sumB s)).getD (bodyV eB 0) = .agg (bodyA y (epN l y))) := Lib.hid (by
    obtain ⟨r, hr, h1⟩ := hyr
    rw [← hsum, ftx_at h.o hr h1]
    rfl)
  have HVb : Hid ((ftx l (sumB s)).isSome = true) := Lib.hid (by
    obtain ⟨r, hr, h1⟩ := hyr
    rw [← hsum, ftx_at h.o hr h1]
    rfl)
  have hys : (y.toList == s.toList) = false := by rw [str_eq]; exact decide_eq_false hne
  have hyn : y.toList ≠ s.toList := by simpa using hys
  obtain ⟨m, hm9⟩ : ∃ m, epN l y = m := ⟨_, rfl⟩
  rw [hm9] at HVt
  obtain ⟨x, hx⟩ : ∃ x, sumB s = x := ⟨_, rfl⟩
  have HXs := Lib.hid hx
  rw [hx] at HX HVt HVb
  obtain ⟨n, hn⟩ : ∃ n : Nat, sizeT (textsR l) = n := ⟨_, rfl⟩
  have HNn := Lib.hid hn
  rw [hn] at g
  obtain ⟨k, hk⟩ : ∃ k, kc x = k := ⟨_, rfl⟩
  have HKx := Lib.hid hk
  have HCl : Hid (∀ w, Calls Tryd.prog 36 #[.string s] w fun e w' => e = .returned (.string s) ∧ Below w.heap.size w w') := Lib.hid fun w => clone_any s (by omega) w
  obtain ⟨wG, hwG⟩ : ∃ wG, wG = w.alloc (.cells k 43) := ⟨_, rfl⟩
  have hbG : Below w.heap.size w wG := by rw [hwG]; exact al1 _ _
  have HBG := Lib.hid hbG
  have HGG := Lib.hid (g.below hbG)
  have HO0 : Hid (Rg.Own wG w.heap.size k 43) := Lib.hid (by rw [hwG]; exact Rg.Own.new _ _ _)
  have HWG := Lib.hid hwG
  have HLt := Lib.hid g.lt
  rw [hx, hk]
  clear hk hx hn h hF he0 he1 hs0 hs1 hok hNh hNe g hbG hwG hm9 hyr hy hne hsum
  go_enter Tryd.func26, Tryd.ntmps26
  go_wp2_with fail
  rw [← HWG.out]
  obtain ⟨g0, hg0⟩ : ∃ g, w.heap.size = g := ⟨_, rfl⟩
  have HG0 : Hid (g0 = w.heap.size) := Lib.hid hg0.symm
  rw [hg0] at HO0 ⊢
  clear hg0 HWG
  refine wp_region_noPanic ?_
  refine wp_region_held_drew (S := fun wz => Rg.Own wz bb (objA tm hm n tw) 56 ∧ Rg.Own wz g0 k 43 ∧ MoS wz tm (ftx l) (textsR l).length) (by kernel_rfl) (⟨HGG.out.own, HO0.out, HGG.out.tx.same fun _ _ => rfl⟩) (fun hHeld => ?_)
  refine Rg.takeL (i := 0) (v := ?_) rfl (by kernel_rfl) (by kernel_rfl) (by kernel_rfl) (fun _ _ _ h => h) (Or.inl ⟨by rfl, ?_⟩) (by assumption) ?_
  rotate_left
  · (intro wz hSw; (try dsimp only at hSw); go_simp <;> with_reducible rfl)
  try simp only [Act.put, List.setIfInBounds_toArray, List.set_cons_zero, List.set_cons_succ]
  refine Rg.takeL (i := 1) (v := ?_) rfl (by kernel_rfl) (by kernel_rfl) (by kernel_rfl) (fun _ _ _ h => h) (Or.inl ⟨by rfl, ?_⟩) (by assumption) ?_
  rotate_left
  · (intro wz hSw; (try dsimp only at hSw); go_simp <;> with_reducible rfl)
  try simp only [Act.put, List.setIfInBounds_toArray, List.set_cons_zero, List.set_cons_succ]
  refine Rg.takeL (i := 2) (v := ?_) rfl (by kernel_rfl) (by kernel_rfl) (by kernel_rfl) (fun _ _ _ h => h) (Or.inl ⟨by rfl, ?_⟩) (by assumption) ?_
  rotate_left
  · (intro wz hSw; (try dsimp only at hSw); go_simp <;> with_reducible rfl)
  try simp only [Act.put, List.setIfInBounds_toArray, List.set_cons_zero, List.set_cons_succ]
  refine Rg.takeL (i := 3) (v := ?_) rfl (by kernel_rfl) (by kernel_rfl) (by kernel_rfl) (fun _ _ _ h => h) (Or.inl ⟨by rfl, ?_⟩) (by assumption) ?_
  rotate_left
  · (intro wz hSw; (have q0 := ob0 hSw.1; go_simp <;> with_reducible rfl))
  try simp only [Act.put, List.setIfInBounds_toArray, List.set_cons_zero, List.set_cons_succ]
  refine Rg.takeL (i := 4) (v := ?_) rfl (by kernel_rfl) (by kernel_rfl) (by kernel_rfl) (fun _ _ _ h => h) (Or.inl ⟨by rfl, ?_⟩) (by assumption) ?_
  rotate_left
  · (intro wz hSw; (refine op_ldK HX.out HKx.out hSw.2.1 ?_; exact ⟨_, rfl, rfl⟩))
  try simp only [Act.put, List.setIfInBounds_toArray, List.set_cons_zero, List.set_cons_succ]
  refine Rg.takeL (i := 5) (v := ?_) rfl (by kernel_rfl) (by kernel_rfl) (by kernel_rfl) (fun _ _ _ h => h) (Or.inl ⟨by rfl, ?_⟩) (by assumption) ?_
  rotate_left
  · (intro wz hSw; (refine op_lookT2' hSw.2.2 HX.out HKx.out HVt.out HVb.out ?_; exact ⟨_, _, rfl, rfl, rfl⟩))
  try simp only [Act.put, List.setIfInBounds_toArray, List.set_cons_zero, List.set_cons_succ]
  refine Rg.takeL (i := 6) (v := ?_) rfl (by kernel_rfl) (by kernel_rfl) (by kernel_rfl) (fun _ _ _ h => h) (Or.inl ⟨by rfl, ?_⟩) (by assumption) ?_
  rotate_left
  · (intro wz hSw; (try dsimp only at hSw); go_simp <;> with_reducible rfl)
  try simp only [Act.put, List.setIfInBounds_toArray, List.set_cons_zero, List.set_cons_succ]
  refine Rg.takeL (i := 7) (v := ?_) rfl (by kernel_rfl) (by kernel_rfl) (by kernel_rfl) (fun _ _ _ h => h) (Or.inl ⟨by rfl, ?_⟩) (by assumption) ?_
  rotate_left
  · (intro wz hSw; (try dsimp only at hSw); go_simp <;> with_reducible rfl)
  try simp only [Act.put, List.setIfInBounds_toArray, List.set_cons_zero, List.set_cons_succ]
  refine Rg.takeL (i := 8) (v := ?_) rfl (by kernel_rfl) (by kernel_rfl) (by kernel_rfl) (fun _ _ _ h => h) (Or.inl ⟨by rfl, ?_⟩) (by assumption) ?_
  rotate_left
  · (intro wz hSw; (try dsimp only at hSw); go_simp <;> with_reducible rfl)
  try simp only [Act.put, List.setIfInBounds_toArray, List.set_cons_zero, List.set_cons_succ]
  refine wpAnyH_ready (rs := [9]) (by kernel_rfl) (by simp) ?_
  refine Rg.readyL (i := 9) rfl (fun K hK => ?_)
  refine Rg.meetAlloc (by rfl) (run_alloc_body _ _ _ _ rfl rfl) ?_
  rintro wv b9 he9 h9 hbx
  have HG9 : Hid (b9 = wG.heap.size) := Lib.hid he9
  have HB9 : Hid (Below wG.heap.size wG wv) := Lib.hid ((Below.refl _ _).drew.trans hbx)
  clear he9
  refine hK.out _ _ ?_ (fun hHeld => ?_)
  · exact ⟨HGG.out.own.below HB9.out, HO0.out.below HB9.out, HGG.out.tx.same fun b e => HB9.out.block b (HGG.out.tx.lt e)⟩
  clear hK K hbx
  try simp only [Act.put, List.setIfInBounds_toArray, List.set_cons_zero, List.set_cons_succ]
  refine wpAnyH_ready (rs := [10]) (by kernel_rfl) (by simp) ?_
  refine Rg.readyL (i := 10) rfl (fun K hK => ?_)
  refine Rg.meetStore (by rfl) h9 68 (bodyA y m) ⟨_, _, rfl, rfl, rfl⟩ info_body rfl (bodyA_one _ _) ?_
  rintro wu hn hu
  have HO9 : Hid (Rg.Own wu b9 (bodyA y m) 68) := Lib.hid hn
  have HB10 : Hid (Below wG.heap.size wG wu) := Lib.hid (hu.below HB9.out (by rw [HG9.out]; exact Nat.le_refl _))
  refine hK.out _ _ ?_ (fun hHeld => ?_)
  · exact ⟨HGG.out.own.below HB10.out, HO0.out.below HB10.out, HGG.out.tx.same fun b e => HB10.out.block b (HGG.out.tx.lt e)⟩
  clear hK K hn hu h9 HB9
  try simp only [Act.put, List.setIfInBounds_toArray, List.set_cons_zero, List.set_cons_succ]
  refine Rg.takeL (i := 11) (v := ?_) rfl (by kernel_rfl) (by kernel_rfl) (by kernel_rfl) (fun _ _ _ h => h) (Or.inl ⟨by rfl, ?_⟩) (by assumption) ?_
  rotate_left
  · (intro wz hSw; (try dsimp only at hSw); go_simp <;> with_reducible rfl)
  try simp only [Act.put, List.setIfInBounds_toArray, List.set_cons_zero, List.set_cons_succ]
  refine wpAnyH_done (by kernel_rfl) ?_ _
  refine NoPanic.normal ?_
  clear hHeld
  have HGu := Lib.hid (HGG.out.below HB10.out)
  have HBb : Hid (bb < b9 ∧ g0 < b9) := Lib.hid ⟨by rw [HG9.out]; exact HGG.out.own.1, by rw [HG9.out]; exact HO0.out.1⟩
  have HNB : Hid (¬ KS bb tm hm M b9 ∧ ¬ KS bb tm hm M g0) := Lib.hid ⟨fun g => by have := HGG.out.lt _ g; have := HG9.out; omega, fun g => by have := HLt.out _ g; have := HG0.out; omega⟩
  have HFu := Lib.hid (((FrK.start (KS bb tm hm M) w).more HBG.out).more HB10.out)
  have q0 := bd0 HO9.out
  go_wp2_with fail
  refine wp_region_noPanic ?_
  refine wp_region_held_drew (S := fun wz => Rg.Own wz b9 (bodyA y m) 68) (by kernel_rfl) (HO9.out) (fun hHeld => ?_)
  refine Rg.takeL (i := 0) (v := ?_) rfl (by kernel_rfl) (by kernel_rfl) (by kernel_rfl) (fun _ _ _ h => h) (Or.inl ⟨by rfl, ?_⟩) (by assumption) ?_
  rotate_left
  · (intro wz hSw; (try dsimp only at hSw); go_simp <;> with_reducible rfl)
  try simp only [Act.put, List.setIfInBounds_toArray, List.set_cons_zero, List.set_cons_succ]
  refine Rg.takeL (i := 1) (v := ?_) rfl (by kernel_rfl) (by kernel_rfl) (by kernel_rfl) (fun _ _ _ h => h) (Or.inl ⟨by rfl, ?_⟩) (by assumption) ?_
  rotate_left
  · (intro wz hSw; (try dsimp only at hSw); go_simp <;> with_reducible rfl)
  try simp only [Act.put, List.setIfInBounds_toArray, List.set_cons_zero, List.set_cons_succ]
  refine Rg.takeL (i := 2) (v := ?_) rfl (by kernel_rfl) (by kernel_rfl) (by kernel_rfl) (fun _ _ _ h => h) (Or.inl ⟨by rfl, ?_⟩) (by assumption) ?_
  rotate_left
  · (intro wz hSw; (try dsimp only at hSw); go_simp <;> with_reducible rfl)
  try simp only [Act.put, List.setIfInBounds_toArray, List.set_cons_zero, List.set_cons_succ]
  refine Rg.takeL (i := 3) (v := ?_) rfl (by kernel_rfl) (by kernel_rfl) (by kernel_rfl) (fun _ _ _ h => h) (Or.inl ⟨by rfl, ?_⟩) (by assumption) ?_
  rotate_left
  · (intro wz hSw; (try dsimp only at hSw); go_simp <;> with_reducible rfl)
  try simp only [Act.put, List.setIfInBounds_toArray, List.set_cons_zero, List.set_cons_succ]
  refine Rg.takeL (i := 4) (v := ?_) rfl (by kernel_rfl) (by kernel_rfl) (by kernel_rfl) (fun _ _ _ h => h) (Or.inl ⟨by rfl, ?_⟩) (by assumption) ?_
  rotate_left
  · (intro wz hSw; (have q9 := bd0 hSw; go_simp <;> with_reducible rfl))
  try simp only [Act.put, List.setIfInBounds_toArray, List.set_cons_zero, List.set_cons_succ]
  refine Rg.takeL (i := 5) (v := ?_) rfl (by kernel_rfl) (by kernel_rfl) (by kernel_rfl) (fun _ _ _ h => h) (Or.inl ⟨by rfl, ?_⟩) (by assumption) ?_
  rotate_left
  · (intro wz hSw; (try dsimp only at hSw); go_simp <;> with_reducible rfl)
  try simp only [Act.put, List.setIfInBounds_toArray, List.set_cons_zero, List.set_cons_succ]
  refine wpAnyH_ready (rs := [6]) (by kernel_rfl) (by simp) ?_
  refine Rg.readyL (i := 6) rfl (fun K hK => ?_)
  go_simp
  go_at_call 36
  (with_reducible refine (HCl.out _).mono ?_)
  rintro e9 wc ⟨rfl, hbc⟩
  have HBc := Lib.hid hbc
  have HOc := Lib.hid (HGu.out.own.below (w' := wc) ((Below.refl _ _).drew.trans hbc))
  refine hK.out _ _ ?_ (fun hHeld => ?_)
  · exact HO9.out.below ((Below.refl _ _).drew.trans hbc)
  clear hK K hbc
  try simp only [Act.put, List.setIfInBounds_toArray, List.set_cons_zero, List.set_cons_succ]
  refine Rg.takeL (i := 7) (v := ?_) rfl (by kernel_rfl) (by kernel_rfl) (by kernel_rfl) (fun _ _ _ h => h) (Or.inl ⟨by rfl, ?_⟩) (by assumption) ?_
  rotate_left
  · (intro wz hSw; (try dsimp only at hSw); go_simp <;> with_reducible rfl)
  try simp only [Act.put, List.setIfInBounds_toArray, List.set_cons_zero, List.set_cons_succ]
  refine Rg.takeL (i := 8) (v := ?_) rfl (by kernel_rfl) (by kernel_rfl) (by kernel_rfl) (fun _ _ _ h => h) (Or.inl ⟨by rfl, ?_⟩) (by assumption) ?_
  rotate_left
  · (intro wz hSw; (try dsimp only at hSw); go_simp <;> with_reducible rfl)
  try simp only [Act.put, List.setIfInBounds_toArray, List.set_cons_zero, List.set_cons_succ]
  refine wpAnyH_ready (rs := [9]) (by kernel_rfl) (by simp) ?_
  refine Rg.readyL (i := 9) rfl (fun K hK => ?_)
  refine elimM (R := fun w' => Rg.Own w' bb ((objA tm hm n tw).setIfInBounds 3 (.string y)) 56 ∧ Rg.Upd wc bb w') (by rfl) ⟨_, run_stS HOc.out (by simp [objA]) y ⟨_, _, rfl, rfl, rfl⟩, own_set HOc.out _, upd_set _ _ _ _⟩ ?_
  rintro we1 ⟨hoo, huu⟩
  have HO11 := Lib.hid hoo
  have HU11 := Lib.hid huu
  refine hK.out _ _ ?_ (fun hHeld => ?_)
  · exact hHeld.upd huu (by have := HGu.out.own.1; have := HBb.out; omega)
  clear hK K hoo huu
  try simp only [Act.put, List.setIfInBounds_toArray, List.set_cons_zero, List.set_cons_succ]
  refine Rg.takeL (i := 10) (v := ?_) rfl (by kernel_rfl) (by kernel_rfl) (by kernel_rfl) (fun _ _ _ h => h) (Or.inl ⟨by rfl, ?_⟩) (by assumption) ?_
  rotate_left
  · (intro wz hSw; (try dsimp only at hSw); go_simp <;> with_reducible rfl)
  try simp only [Act.put, List.setIfInBounds_toArray, List.set_cons_zero, List.set_cons_succ]
  refine Rg.takeL (i := 11) (v := ?_) rfl (by kernel_rfl) (by kernel_rfl) (by kernel_rfl) (fun _ _ _ h => h) (Or.inl ⟨by rfl, ?_⟩) (by assumption) ?_
  rotate_left
  · (intro wz hSw; (try dsimp only at hSw); go_simp <;> with_reducible rfl)
  try simp only [Act.put, List.setIfInBounds_toArray, List.set_cons_zero, List.set_cons_succ]
  refine wpAnyH_ready (rs := [12]) (by kernel_rfl) (by simp) ?_
  refine Rg.readyL (i := 12) rfl (fun K hK => ?_)
  refine elimM (R := fun w' => Rg.Own w' bb (((objA tm hm n tw).setIfInBounds 3 (.string y)).setIfInBounds 4 (.string s)) 56 ∧ Rg.Upd we1 bb w') (by rfl) ⟨_, run_stS HO11.out (by simp [objA]) s ⟨_, _, rfl, rfl, rfl⟩, own_set HO11.out _, upd_set _ _ _ _⟩ ?_
  rintro we2 ⟨hoo, huu⟩
  have HO12 := Lib.hid hoo
  have HU12 := Lib.hid huu
  refine hK.out _ _ ?_ (fun hHeld => ?_)
  · exact hHeld.upd huu (by have := HGu.out.own.1; have := HBb.out; omega)
  clear hK K hoo huu
  try simp only [Act.put, List.setIfInBounds_toArray, List.set_cons_zero, List.set_cons_succ]
  refine Rg.takeL (i := 13) (v := ?_) rfl (by kernel_rfl) (by kernel_rfl) (by kernel_rfl) (fun _ _ _ h => h) (Or.inl ⟨by rfl, ?_⟩) (by assumption) ?_
  rotate_left
  · (intro wz hSw; (try dsimp only at hSw); go_simp <;> with_reducible rfl)
  try simp only [Act.put, List.setIfInBounds_toArray, List.set_cons_zero, List.set_cons_succ]
  refine Rg.takeL (i := 14) (v := ?_) rfl (by kernel_rfl) (by kernel_rfl) (by kernel_rfl) (fun _ _ _ h => h) (Or.inl ⟨by rfl, ?_⟩) (by assumption) ?_
  rotate_left
  · (intro wz hSw; (try dsimp only at hSw); go_simp <;> with_reducible rfl)
  try simp only [Act.put, List.setIfInBounds_toArray, List.set_cons_zero, List.set_cons_succ]
  refine wpAnyH_ready (rs := [15]) (by kernel_rfl) (by simp) ?_
  refine Rg.readyL (i := 15) rfl (fun K hK => ?_)
  refine elimM (R := fun w' => Rg.Own w' bb ((((objA tm hm n tw).setIfInBounds 3 (.string y)).setIfInBounds 4 (.string s)).setIfInBounds 5 (.bool true)) 56 ∧ Rg.Upd we2 bb w') (by rfl) ⟨_, run_stB HO12.out (by simp [objA]) true ⟨_, _, rfl, rfl, rfl⟩, own_set HO12.out _, upd_set _ _ _ _⟩ ?_
  rintro we3 ⟨hoo, huu⟩
  have HO13 := Lib.hid hoo
  have HU13 := Lib.hid huu
  refine hK.out _ _ ?_ (fun hHeld => ?_)
  · exact hHeld.upd huu (by have := HGu.out.own.1; have := HBb.out; omega)
  clear hK K hoo huu
  try simp only [Act.put, List.setIfInBounds_toArray, List.set_cons_zero, List.set_cons_succ]
  refine wpAnyH_done (by kernel_rfl) ?_ _
  refine NoPanic.normal ?_
  clear hHeld
  have HRes : Hid (PutQ bb tm hm M l tw e s w (.returned (.int .i64 16)) we3) := Lib.hid (by
    have hB := (Below.refl wu.heap.size wu).drew.trans HBc.out
    have hu := upd_trans (upd_trans HU11.out HU12.out) HU13.out
    refine ⟨16, l, some (y, s), tm, hm, M, rfl, .inl ⟨rfl, rfl, y, HY.out.1, HY.out.2.1, HY.out.2.2, rfl⟩, ?_, (HFu.out.more hB).upd hu (.inl (.inl rfl))⟩
    have hG := HGu.out.below hB
    have ho := HO13.out
    rw [← HNn.out] at hG ho
    exact st_twin HSt.out hG HNe.out hu ho)
  clear HU11 HU12 HU13 HO11 HO12 HO13 HOc HBc
  go_wp2
  go_ret
  exact HRes.out
set_option maxHeartbeats 8000000 in
theorem put_row {l : List Rw} {s : ByteArray} (h : St bb tm hm M l tw w) (hF : Bd.Fine 40 l) (he0 : 0 ≤ e) (he1 : e ≤ 1048576) (hs0 : 32 ≤ s.size) (hs1 : s.size ≤ 200) (hr : hasR l e s = true) :
    Calls Tryd.prog 26 #[.pointer (some ⟨bb, 0, none⟩), .int .i64 e, .string s, .agg (kc (sumB s))] w (PutQ bb tm hm M l tw e s w) := by
  have hok := hF.ok
  obtain ⟨Nh, hNe, g⟩ := h.g
  have hNh : Nh ≤ l.length := by rw [hNe]; exact epochs_le l
  have HNe := Lib.hid hNe
  have HSt := Lib.hid h
  have HF := Lib.hid hF
  have HE := Lib.hid (w64_in he0 he1)
  have HX : Hid (L32 (sumB s)) := Lib.hid (sumB_length s)
  have HNh := Lib.hid hNh
  have HSz : Hid (32 ≤ s.size ∧ s.size ≤ 200) := Lib.hid ⟨hs0, hs1⟩
  have HNL := Lib.hid hF.len
  have ht : s ∈ textsR l := by
    obtain ⟨r, hr, _, h2⟩ := hasR_iff.1 hr
    exact mem_texts.2 ⟨r, hr, h2⟩
  have hs : ∀ t ∈ textsR l, sumB t = sumB s → t = s := fun t h1 g => by
    obtain ⟨r1, hq1, rfl⟩ := mem_texts.1 h1
    obtain ⟨r2, hq2, rfl⟩ := mem_texts.1 ht
    exact h.o r1 hq1 r2 hq2 g
  have hyr := mem_texts.1 ht
  have HVt : Hid ((ftx l (sumB s)).getD (bodyV eB 0) = .agg (bodyA s (epN l s))) := Lib.hid (by
    obtain ⟨r, hr, h1⟩ := hyr
    rw [ftx_at h.o hr h1]
    rfl)
  have HVb : Hid ((ftx l (sumB s)).isSome = true) := Lib.hid (by
    obtain ⟨r, hr, h1⟩ := hyr
    rw [ftx_at h.o hr h1]
    rfl)
  have HZ : Hid (sizeT (textsR (putR l e s)) = sizeT (textsR l)) := Lib.hid ((put_size hok e s).1 ht)
  have HNs := Lib.hid hs
  have HVi := Lib.hid (fix_get hok.u h.o (e := e) hs)
  have HEp : Hid (epN l s = epN (putR l e s) s) := Lib.hid (by
    have h1 := (oth_put hok e s).ep
    rw [put_hasR hok e s, hr] at h1
    simp at h1
    omega)
  obtain ⟨c, hc⟩ : ∃ c, cntR l e s = c := ⟨_, rfl⟩
  have hc1 : 0 < c := by
    rw [← hc]
    exact (cnt_pos hok.n).2 (hasR_iff.1 hr)
  have hc2 : c ≤ 1000 := by
    obtain ⟨r, hr, h1, h2⟩ := hasR_iff.1 hr
    have := (hF.row r hr).1
    rw [← hc, ← h1, ← h2, cnt_row hok.u hr]
    omega
  have HC0 : Hid ((c == 0) = false) := Lib.hid (by rw [beq_eq_false_iff_ne]; omega)
  have HC1 : Hid (decide (c = 0) = false) := Lib.hid (decide_eq_false (by omega))
  have HCb : Hid (0 ≤ c ∧ c ≤ 1000000) := Lib.hid ⟨by omega, by omega⟩
  rw [hc] at HVi
  have HCc := Lib.hid hc
  obtain ⟨m, hm9⟩ : ∃ m, epN l s = m := ⟨_, rfl⟩
  have HMe : Hid (m ≤ 40) := Lib.hid (by have := ep_le l s; have := hF.len; omega)
  rw [hm9] at HVt HEp
  obtain ⟨x, hx⟩ : ∃ x, sumB s = x := ⟨_, rfl⟩
  have HXs := Lib.hid hx
  rw [hx] at HX HVt HVb HVi
  obtain ⟨n, hn⟩ : ∃ n : Nat, sizeT (textsR l) = n := ⟨_, rfl⟩
  have HNn := Lib.hid hn
  rw [hn] at g
  obtain ⟨k, hk⟩ : ∃ k, kc x = k := ⟨_, rfl⟩
  have HKx := Lib.hid hk
  have HCl : Hid (∀ w, Calls Tryd.prog 36 #[.string s] w fun e w' => e = .returned (.string s) ∧ Below w.heap.size w w') := Lib.hid fun w => clone_any s (by omega) w
  obtain ⟨wG, hwG⟩ : ∃ wG, wG = w.alloc (.cells k 43) := ⟨_, rfl⟩
  have hbG : Below w.heap.size w wG := by rw [hwG]; exact al1 _ _
  have HBG := Lib.hid hbG
  have HGG := Lib.hid (g.below hbG)
  have HO0 : Hid (Rg.Own wG w.heap.size k 43) := Lib.hid (by rw [hwG]; exact Rg.Own.new _ _ _)
  have HWG := Lib.hid hwG
  have HLt := Lib.hid g.lt
  rw [hx, hk]
  clear hk hx hn h hF he0 he1 hs0 hs1 hok hNh hNe g hbG hwG hr hs ht hc hc1 hc2 hm9 hyr
  go_enter Tryd.func26, Tryd.ntmps26
  go_wp2_with fail
  rw [← HWG.out]
  obtain ⟨g0, hg0⟩ : ∃ g, w.heap.size = g := ⟨_, rfl⟩
  have HG0 : Hid (g0 = w.heap.size) := Lib.hid hg0.symm
  rw [hg0] at HO0 ⊢
  clear hg0 HWG
  refine wp_region_noPanic ?_
  refine wp_region_held_drew (S := fun wz => Rg.Own wz bb (objA tm hm n tw) 56 ∧ Rg.Own wz g0 k 43 ∧ MoS wz tm (ftx l) (textsR l).length) (by kernel_rfl) (⟨HGG.out.own, HO0.out, HGG.out.tx.same fun _ _ => rfl⟩) (fun hHeld => ?_)
  refine Rg.takeL (i := 0) (v := ?_) rfl (by kernel_rfl) (by kernel_rfl) (by kernel_rfl) (fun _ _ _ h => h) (Or.inl ⟨by rfl, ?_⟩) (by assumption) ?_
  rotate_left
  · (intro wz hSw; (try dsimp only at hSw); go_simp <;> with_reducible rfl)
  try simp only [Act.put, List.setIfInBounds_toArray, List.set_cons_zero, List.set_cons_succ]
  refine Rg.takeL (i := 1) (v := ?_) rfl (by kernel_rfl) (by kernel_rfl) (by kernel_rfl) (fun _ _ _ h => h) (Or.inl ⟨by rfl, ?_⟩) (by assumption) ?_
  rotate_left
  · (intro wz hSw; (try dsimp only at hSw); go_simp <;> with_reducible rfl)
  try simp only [Act.put, List.setIfInBounds_toArray, List.set_cons_zero, List.set_cons_succ]
  refine Rg.takeL (i := 2) (v := ?_) rfl (by kernel_rfl) (by kernel_rfl) (by kernel_rfl) (fun _ _ _ h => h) (Or.inl ⟨by rfl, ?_⟩) (by assumption) ?_
  rotate_left
  · (intro wz hSw; (try dsimp only at hSw); go_simp <;> with_reducible rfl)
  try simp only [Act.put, List.setIfInBounds_toArray, List.set_cons_zero, List.set_cons_succ]
  refine Rg.takeL (i := 3) (v := ?_) rfl (by kernel_rfl) (by kernel_rfl) (by kernel_rfl) (fun _ _ _ h => h) (Or.inl ⟨by rfl, ?_⟩) (by assumption) ?_
  rotate_left
  · (intro wz hSw; (have q0 := ob0 hSw.1; go_simp <;> with_reducible rfl))
  try simp only [Act.put, List.setIfInBounds_toArray, List.set_cons_zero, List.set_cons_succ]
  refine Rg.takeL (i := 4) (v := ?_) rfl (by kernel_rfl) (by kernel_rfl) (by kernel_rfl) (fun _ _ _ h => h) (Or.inl ⟨by rfl, ?_⟩) (by assumption) ?_
  rotate_left
  · (intro wz hSw; (refine op_ldK HX.out HKx.out hSw.2.1 ?_; exact ⟨_, rfl, rfl⟩))
  try simp only [Act.put, List.setIfInBounds_toArray, List.set_cons_zero, List.set_cons_succ]
  refine Rg.takeL (i := 5) (v := ?_) rfl (by kernel_rfl) (by kernel_rfl) (by kernel_rfl) (fun _ _ _ h => h) (Or.inl ⟨by rfl, ?_⟩) (by assumption) ?_
  rotate_left
  · (intro wz hSw; (refine op_lookT2' hSw.2.2 HX.out HKx.out HVt.out HVb.out ?_; exact ⟨_, _, rfl, rfl, rfl⟩))
  try simp only [Act.put, List.setIfInBounds_toArray, List.set_cons_zero, List.set_cons_succ]
  refine Rg.takeL (i := 6) (v := ?_) rfl (by kernel_rfl) (by kernel_rfl) (by kernel_rfl) (fun _ _ _ h => h) (Or.inl ⟨by rfl, ?_⟩) (by assumption) ?_
  rotate_left
  · (intro wz hSw; (try dsimp only at hSw); go_simp <;> with_reducible rfl)
  try simp only [Act.put, List.setIfInBounds_toArray, List.set_cons_zero, List.set_cons_succ]
  refine Rg.takeL (i := 7) (v := ?_) rfl (by kernel_rfl) (by kernel_rfl) (by kernel_rfl) (fun _ _ _ h => h) (Or.inl ⟨by rfl, ?_⟩) (by assumption) ?_
  rotate_left
  · (intro wz hSw; (try dsimp only at hSw); go_simp <;> with_reducible rfl)
  try simp only [Act.put, List.setIfInBounds_toArray, List.set_cons_zero, List.set_cons_succ]
  refine Rg.takeL (i := 8) (v := ?_) rfl (by kernel_rfl) (by kernel_rfl) (by kernel_rfl) (fun _ _ _ h => h) (Or.inl ⟨by rfl, ?_⟩) (by assumption) ?_
  rotate_left
  · (intro wz hSw; (try dsimp only at hSw); go_simp <;> with_reducible rfl)
  try simp only [Act.put, List.setIfInBounds_toArray, List.set_cons_zero, List.set_cons_succ]
  refine wpAnyH_ready (rs := [9]) (by kernel_rfl) (by simp) ?_
  refine Rg.readyL (i := 9) rfl (fun K hK => ?_)
  refine Rg.meetAlloc (by rfl) (run_alloc_body _ _ _ _ rfl rfl) ?_
  rintro wv b9 he9 h9 hbx
  have HG9 : Hid (b9 = wG.heap.size) := Lib.hid he9
  have HB9 : Hid (Below wG.heap.size wG wv) := Lib.hid ((Below.refl _ _).drew.trans hbx)
  clear he9
  refine hK.out _ _ ?_ (fun hHeld => ?_)
  · exact ⟨HGG.out.own.below HB9.out, HO0.out.below HB9.out, HGG.out.tx.same fun b e => HB9.out.block b (HGG.out.tx.lt e)⟩
  clear hK K hbx
  try simp only [Act.put, List.setIfInBounds_toArray, List.set_cons_zero, List.set_cons_succ]
  refine wpAnyH_ready (rs := [10]) (by kernel_rfl) (by simp) ?_
  refine Rg.readyL (i := 10) rfl (fun K hK => ?_)
  refine Rg.meetStore (by rfl) h9 68 (bodyA s m) ⟨_, _, rfl, rfl, rfl⟩ info_body rfl (bodyA_one _ _) ?_
  rintro wu hn hu
  have HO9 : Hid (Rg.Own wu b9 (bodyA s m) 68) := Lib.hid hn
  have HB10 : Hid (Below wG.heap.size wG wu) := Lib.hid (hu.below HB9.out (by rw [HG9.out]; exact Nat.le_refl _))
  refine hK.out _ _ ?_ (fun hHeld => ?_)
  · exact ⟨HGG.out.own.below HB10.out, HO0.out.below HB10.out, HGG.out.tx.same fun b e => HB10.out.block b (HGG.out.tx.lt e)⟩
  clear hK K hn hu h9 HB9
  try simp only [Act.put, List.setIfInBounds_toArray, List.set_cons_zero, List.set_cons_succ]
  refine Rg.takeL (i := 11) (v := ?_) rfl (by kernel_rfl) (by kernel_rfl) (by kernel_rfl) (fun _ _ _ h => h) (Or.inl ⟨by rfl, ?_⟩) (by assumption) ?_
  rotate_left
  · (intro wz hSw; (try dsimp only at hSw); go_simp <;> with_reducible rfl)
  try simp only [Act.put, List.setIfInBounds_toArray, List.set_cons_zero, List.set_cons_succ]
  refine wpAnyH_done (by kernel_rfl) ?_ _
  refine NoPanic.normal ?_
  clear hHeld
  have HGu := Lib.hid (HGG.out.below HB10.out)
  have HBb : Hid (bb < b9 ∧ g0 < b9) := Lib.hid ⟨by rw [HG9.out]; exact HGG.out.own.1, by rw [HG9.out]; exact HO0.out.1⟩
  have HNB : Hid (¬ KS bb tm hm M b9 ∧ ¬ KS bb tm hm M g0) := Lib.hid ⟨fun g => by have := HGG.out.lt _ g; have := HG9.out; omega, fun g => by have := HLt.out _ g; have := HG0.out; omega⟩
  have HFu := Lib.hid (((FrK.start (KS bb tm hm M) w).more HBG.out).more HB10.out)
  have q0 := bd0 HO9.out
  have hss : (s.toList == s.toList) = true := by simp
  have HGw := HGu
  have HOb := HO9
  have HOk := Lib.hid (HO0.out.below HB10.out)
  have HFw := HFu
  obtain ⟨wf, hwf⟩ : ∃ wf, wf = wu := ⟨_, rfl⟩
  rw [← hwf] at HGw HOb HOk HFw q0 ⊢
  clear hwf
  go_wp2_with fail
  refine wp_region_noPanic ?_
  refine wp_region_held_drew (S := fun wz => Rg.Own wz bb (objA tm hm n tw) 56 ∧ Rg.Own wz g0 k 43 ∧ MoH wz hm (hF M) Nh ∧ MoS wz (M e) (fix_ l e) (exN l e)) (by kernel_rfl) (⟨HGw.out.own, HOk.out, HGw.out.hd.same fun _ _ => rfl, (HGw.out.inn e).same fun _ _ => rfl⟩) (fun hHeld => ?_)
  refine Rg.takeL (i := 0) (v := ?_) rfl (by kernel_rfl) (by kernel_rfl) (by kernel_rfl) (fun _ _ _ h => h) (Or.inl ⟨by rfl, ?_⟩) (by assumption) ?_
  rotate_left
  · (intro wz hSw; (try dsimp only at hSw); go_simp <;> with_reducible rfl)
  try simp only [Act.put, List.setIfInBounds_toArray, List.set_cons_zero, List.set_cons_succ]
  refine Rg.takeL (i := 1) (v := ?_) rfl (by kernel_rfl) (by kernel_rfl) (by kernel_rfl) (fun _ _ _ h => h) (Or.inl ⟨by rfl, ?_⟩) (by assumption) ?_
  rotate_left
  · (intro wz hSw; (try dsimp only at hSw); go_simp <;> with_reducible rfl)
  try simp only [Act.put, List.setIfInBounds_toArray, List.set_cons_zero, List.set_cons_succ]
  refine Rg.takeL (i := 2) (v := ?_) rfl (by kernel_rfl) (by kernel_rfl) (by kernel_rfl) (fun _ _ _ h => h) (Or.inl ⟨by rfl, ?_⟩) (by assumption) ?_
  rotate_left
  · (intro wz hSw; (try dsimp only at hSw); go_simp <;> with_reducible rfl)
  try simp only [Act.put, List.setIfInBounds_toArray, List.set_cons_zero, List.set_cons_succ]
  refine Rg.takeL (i := 3) (v := ?_) rfl (by kernel_rfl) (by kernel_rfl) (by kernel_rfl) (fun _ _ _ h => h) (Or.inl ⟨by rfl, ?_⟩) (by assumption) ?_
  rotate_left
  · (intro wz hSw; (have q0 := ob1 hSw.1; go_simp <;> with_reducible rfl))
  try simp only [Act.put, List.setIfInBounds_toArray, List.set_cons_zero, List.set_cons_succ]
  refine Rg.takeL (i := 4) (v := ?_) rfl (by kernel_rfl) (by kernel_rfl) (by kernel_rfl) (fun _ _ _ h => h) (Or.inl ⟨by rfl, ?_⟩) (by assumption) ?_
  rotate_left
  · (intro wz hSw; (try dsimp only at hSw); go_simp <;> with_reducible rfl)
  try simp only [Act.put, List.setIfInBounds_toArray, List.set_cons_zero, List.set_cons_succ]
  refine Rg.takeL (i := 5) (v := ?_) rfl (by kernel_rfl) (by kernel_rfl) (by kernel_rfl) (fun _ _ _ h => h) (Or.inl ⟨by rfl, ?_⟩) (by assumption) ?_
  rotate_left
  · (intro wz hSw; (refine op_lookH' hSw.2.2.1 HE.out rfl ?_; exact ⟨_, _, rfl, rfl, rfl⟩))
  try simp only [Act.put, List.setIfInBounds_toArray, List.set_cons_zero, List.set_cons_succ]
  refine Rg.takeL (i := 6) (v := ?_) rfl (by kernel_rfl) (by kernel_rfl) (by kernel_rfl) (fun _ _ _ h => h) (Or.inl ⟨by rfl, ?_⟩) (by assumption) ?_
  rotate_left
  · (intro wz hSw; (refine op_ldK HX.out HKx.out hSw.2.1 ?_; exact ⟨_, rfl, rfl⟩))
  try simp only [Act.put, List.setIfInBounds_toArray, List.set_cons_zero, List.set_cons_succ]
  refine Rg.takeL (i := 7) (v := ?_) rfl (by kernel_rfl) (by kernel_rfl) (by kernel_rfl) (fun _ _ _ h => h) (Or.inl ⟨by rfl, ?_⟩) (by assumption) ?_
  rotate_left
  · (intro wz hSw; (refine op_lookI' (V := .int .i64 c) hSw.2.2.2 HX.out HKx.out HVi.out ?_; exact ⟨_, _, rfl, rfl, rfl⟩))
  try simp only [Act.put, List.setIfInBounds_toArray, List.set_cons_zero, List.set_cons_succ]
  refine Rg.takeL (i := 8) (v := ?_) rfl (by kernel_rfl) (by kernel_rfl) (by kernel_rfl) (fun _ _ _ h => h) (Or.inl ⟨by rfl, ?_⟩) (by assumption) ?_
  rotate_left
  · (intro wz hSw; (have q0 := HC0.out; have q9 := HC1.out; go_simp <;> with_reducible rfl))
  try simp only [Act.put, List.setIfInBounds_toArray, List.set_cons_zero, List.set_cons_succ]
  refine wpAnyH_done (by kernel_rfl) ?_ _
  refine NoPanic.normal ?_
  clear hHeld
  have hb8 := (Below.refl wf.heap.size wf).drew
  have HGy := Lib.hid (HGw.out.below hb8)
  have HOy := Lib.hid (HOb.out.below hb8)
  have HOky := Lib.hid (HOk.out.below hb8)
  have HFy := Lib.hid (HFw.out.more hb8)
  obtain ⟨wy, hwy⟩ : ∃ wy, wy = wf.drew := ⟨_, rfl⟩
  rw [← hwy] at HGy HOy HOky HFy ⊢
  clear hb8 hwy
  have q8 := HC0.out
  have q9 := HC1.out
  go_wp2_with (first
    | (refine Rg.run rfl _ _ (op_ldK HX.out HKx.out HOky.out ⟨_, rfl, rfl⟩) ?_)
    | (refine Rg.run rfl _ _ (op_ldB HOy.out ⟨_, rfl, rfl⟩) ?_))
  have HH := hold_any s m HGy.out HE.out HX.out (by have := texts_le l; have := HNL.out; unfold maxLen; omega) (by have := ex_le l e; have := HNL.out; unfold maxLen; omega) (by have := HNh.out; have := HNL.out; unfold maxLen; omega) HVi.out HCb.out.1 HCb.out.2
  rw [HKx.out] at HH
  refine HH.mono ?_
  rintro e9 w9 ⟨rfl, tm', hm', M', Nh', hg', h1, h3, h4, hf⟩
  have HRes : Hid (PutQ bb tm hm M l tw e s w (.returned (.int .i64 0)) w9) := Lib.hid (by
    have hg := hg'
    rw [← HXs.out] at hg
    exact ⟨0, putR l e s, tw, tm', hm', M', rfl, .inr ⟨HNs.out, rfl, rfl, rfl⟩, st_put HF.out.ok HSt.out.o HNs.out HSt.out.full HNe.out (fun hM => (ex_none HGy.out hM).2) (by rw [HZ.out, HNn.out]) HEp.out HCc.out.symm hg h1 h3, HFy.out.trans hf⟩)
  clear HH hg' h1 h3 h4 hf
  go_wp2
  go_ret
  exact HRes.out
set_option maxHeartbeats 8000000 in
theorem put_old {l : List Rw} {s : ByteArray} (h : St bb tm hm M l tw w) (hF : Bd.Fine 40 l) (he0 : 0 ≤ e) (he1 : e ≤ 1048576) (hs0 : 32 ≤ s.size) (hs1 : s.size ≤ 200) (hr : hasR l e s = false) (ht : s ∈ textsR l) :
    Calls Tryd.prog 26 #[.pointer (some ⟨bb, 0, none⟩), .int .i64 e, .string s, .agg (kc (sumB s))] w (PutQ bb tm hm M l tw e s w) := by
  have hok := hF.ok
  obtain ⟨Nh, hNe, g⟩ := h.g
  have hNh : Nh ≤ l.length := by rw [hNe]; exact epochs_le l
  have HNe := Lib.hid hNe
  have HSt := Lib.hid h
  have HF := Lib.hid hF
  have HE := Lib.hid (w64_in he0 he1)
  have HX : Hid (L32 (sumB s)) := Lib.hid (sumB_length s)
  have HNh := Lib.hid hNh
  have HSz : Hid (32 ≤ s.size ∧ s.size ≤ 200) := Lib.hid ⟨hs0, hs1⟩
  have HNL := Lib.hid hF.len
  have hs : ∀ t ∈ textsR l, sumB t = sumB s → t = s := fun t h1 g => by
    obtain ⟨r1, hq1, rfl⟩ := mem_texts.1 h1
    obtain ⟨r2, hq2, rfl⟩ := mem_texts.1 ht
    exact h.o r1 hq1 r2 hq2 g
  have hyr := mem_texts.1 ht
  have HVt : Hid ((ftx l (sumB s)).getD (bodyV eB 0) = .agg (bodyA s (epN l s))) := Lib.hid (by
    obtain ⟨r, hr, h1⟩ := hyr
    rw [ftx_at h.o hr h1]
    rfl)
  have HVb : Hid ((ftx l (sumB s)).isSome = true) := Lib.hid (by
    obtain ⟨r, hr, h1⟩ := hyr
    rw [ftx_at h.o hr h1]
    rfl)
  have HZ : Hid (sizeT (textsR (putR l e s)) = sizeT (textsR l)) := Lib.hid ((put_size hok e s).1 ht)
  have HNs := Lib.hid hs
  have HVi := Lib.hid (fix_get hok.u h.o (e := e) hs)
  have HEp : Hid (epN l s + 1 = epN (putR l e s) s) := Lib.hid (by
    have h1 := (oth_put hok e s).ep
    rw [put_hasR hok e s, hr] at h1
    simp at h1
    omega)
  have HCc : Hid (cntR l e s = 0) := Lib.hid (by
    have h1 := cnt_pos hok.n (e := e) (s := s)
    have h2 := cnt_nonneg hok.n e s
    have h3 : ¬ 0 < cntR l e s := fun g => by rw [hasR_iff.2 (h1.1 g)] at hr; cases hr
    omega)
  rw [HCc.out] at HVi
  have HC0 : Hid (((0 : Int) == 0) = true) := Lib.hid rfl
  have HC1 : Hid (decide ((0 : Int) = 0) = true) := Lib.hid rfl
  have HCb : Hid ((0 : Int) ≤ 0 ∧ (0 : Int) ≤ 1000000) := Lib.hid ⟨by omega, by omega⟩
  obtain ⟨m, hm9⟩ : ∃ m, epN l s = m := ⟨_, rfl⟩
  have HMe : Hid (m ≤ 40) := Lib.hid (by have := ep_le l s; have := hF.len; omega)
  rw [hm9] at HVt HEp
  obtain ⟨x, hx⟩ : ∃ x, sumB s = x := ⟨_, rfl⟩
  have HXs := Lib.hid hx
  rw [hx] at HX HVt HVb HVi
  obtain ⟨n, hn⟩ : ∃ n : Nat, sizeT (textsR l) = n := ⟨_, rfl⟩
  have HNn := Lib.hid hn
  rw [hn] at g
  obtain ⟨k, hk⟩ : ∃ k, kc x = k := ⟨_, rfl⟩
  have HKx := Lib.hid hk
  have HCl : Hid (∀ w, Calls Tryd.prog 36 #[.string s] w fun e w' => e = .returned (.string s) ∧ Below w.heap.size w w') := Lib.hid fun w => clone_any s (by omega) w
  obtain ⟨wG, hwG⟩ : ∃ wG, wG = w.alloc (.cells k 43) := ⟨_, rfl⟩
  have hbG : Below w.heap.size w wG := by rw [hwG]; exact al1 _ _
  have HBG := Lib.hid hbG
  have HGG := Lib.hid (g.below hbG)
  have HO0 : Hid (Rg.Own wG w.heap.size k 43) := Lib.hid (by rw [hwG]; exact Rg.Own.new _ _ _)
  have HWG := Lib.hid hwG
  have HLt := Lib.hid g.lt
  rw [hx, hk]
  clear hk hx hn h hF he0 he1 hs0 hs1 hok hNh hNe g hbG hwG hr hs ht hm9 hyr
  go_enter Tryd.func26, Tryd.ntmps26
  go_wp2_with fail
  rw [← HWG.out]
  obtain ⟨g0, hg0⟩ : ∃ g, w.heap.size = g := ⟨_, rfl⟩
  have HG0 : Hid (g0 = w.heap.size) := Lib.hid hg0.symm
  rw [hg0] at HO0 ⊢
  clear hg0 HWG
  refine wp_region_noPanic ?_
  refine wp_region_held_drew (S := fun wz => Rg.Own wz bb (objA tm hm n tw) 56 ∧ Rg.Own wz g0 k 43 ∧ MoS wz tm (ftx l) (textsR l).length) (by kernel_rfl) (⟨HGG.out.own, HO0.out, HGG.out.tx.same fun _ _ => rfl⟩) (fun hHeld => ?_)
  refine Rg.takeL (i := 0) (v := ?_) rfl (by kernel_rfl) (by kernel_rfl) (by kernel_rfl) (fun _ _ _ h => h) (Or.inl ⟨by rfl, ?_⟩) (by assumption) ?_
  rotate_left
  · (intro wz hSw; (try dsimp only at hSw); go_simp <;> with_reducible rfl)
  try simp only [Act.put, List.setIfInBounds_toArray, List.set_cons_zero, List.set_cons_succ]
  refine Rg.takeL (i := 1) (v := ?_) rfl (by kernel_rfl) (by kernel_rfl) (by kernel_rfl) (fun _ _ _ h => h) (Or.inl ⟨by rfl, ?_⟩) (by assumption) ?_
  rotate_left
  · (intro wz hSw; (try dsimp only at hSw); go_simp <;> with_reducible rfl)
  try simp only [Act.put, List.setIfInBounds_toArray, List.set_cons_zero, List.set_cons_succ]
  refine Rg.takeL (i := 2) (v := ?_) rfl (by kernel_rfl) (by kernel_rfl) (by kernel_rfl) (fun _ _ _ h => h) (Or.inl ⟨by rfl, ?_⟩) (by assumption) ?_
  rotate_left
  · (intro wz hSw; (try dsimp only at hSw); go_simp <;> with_reducible rfl)
  try simp only [Act.put, List.setIfInBounds_toArray, List.set_cons_zero, List.set_cons_succ]
  refine Rg.takeL (i := 3) (v := ?_) rfl (by kernel_rfl) (by kernel_rfl) (by kernel_rfl) (fun _ _ _ h => h) (Or.inl ⟨by rfl, ?_⟩) (by assumption) ?_
  rotate_left
  · (intro wz hSw; (have q0 := ob0 hSw.1; go_simp <;> with_reducible rfl))
  try simp only [Act.put, List.setIfInBounds_toArray, List.set_cons_zero, List.set_cons_succ]
  refine Rg.takeL (i := 4) (v := ?_) rfl (by kernel_rfl) (by kernel_rfl) (by kernel_rfl) (fun _ _ _ h => h) (Or.inl ⟨by rfl, ?_⟩) (by assumption) ?_
  rotate_left
  · (intro wz hSw; (refine op_ldK HX.out HKx.out hSw.2.1 ?_; exact ⟨_, rfl, rfl⟩))
  try simp only [Act.put, List.setIfInBounds_toArray, List.set_cons_zero, List.set_cons_succ]
  refine Rg.takeL (i := 5) (v := ?_) rfl (by kernel_rfl) (by kernel_rfl) (by kernel_rfl) (fun _ _ _ h => h) (Or.inl ⟨by rfl, ?_⟩) (by assumption) ?_
  rotate_left
  · (intro wz hSw; (refine op_lookT2' hSw.2.2 HX.out HKx.out HVt.out HVb.out ?_; exact ⟨_, _, rfl, rfl, rfl⟩))
  try simp only [Act.put, List.setIfInBounds_toArray, List.set_cons_zero, List.set_cons_succ]
  refine Rg.takeL (i := 6) (v := ?_) rfl (by kernel_rfl) (by kernel_rfl) (by kernel_rfl) (fun _ _ _ h => h) (Or.inl ⟨by rfl, ?_⟩) (by assumption) ?_
  rotate_left
  · (intro wz hSw; (try dsimp only at hSw); go_simp <;> with_reducible rfl)
  try simp only [Act.put, List.setIfInBounds_toArray, List.set_cons_zero, List.set_cons_succ]
  refine Rg.takeL (i := 7) (v := ?_) rfl (by kernel_rfl) (by kernel_rfl) (by kernel_rfl) (fun _ _ _ h => h) (Or.inl ⟨by rfl, ?_⟩) (by assumption) ?_
  rotate_left
  · (intro wz hSw; (try dsimp only at hSw); go_simp <;> with_reducible rfl)
  try simp only [Act.put, List.setIfInBounds_toArray, List.set_cons_zero, List.set_cons_succ]
  refine Rg.takeL (i := 8) (v := ?_) rfl (by kernel_rfl) (by kernel_rfl) (by kernel_rfl) (fun _ _ _ h => h) (Or.inl ⟨by rfl, ?_⟩) (by assumption) ?_
  rotate_left
  · (intro wz hSw; (try dsimp only at hSw); go_simp <;> with_reducible rfl)
  try simp only [Act.put, List.setIfInBounds_toArray, List.set_cons_zero, List.set_cons_succ]
  refine wpAnyH_ready (rs := [9]) (by kernel_rfl) (by simp) ?_
  refine Rg.readyL (i := 9) rfl (fun K hK => ?_)
  refine Rg.meetAlloc (by rfl) (run_alloc_body _ _ _ _ rfl rfl) ?_
  rintro wv b9 he9 h9 hbx
  have HG9 : Hid (b9 = wG.heap.size) := Lib.hid he9
  have HB9 : Hid (Below wG.heap.size wG wv) := Lib.hid ((Below.refl _ _).drew.trans hbx)
  clear he9
  refine hK.out _ _ ?_ (fun hHeld => ?_)
  · exact ⟨HGG.out.own.below HB9.out, HO0.out.below HB9.out, HGG.out.tx.same fun b e => HB9.out.block b (HGG.out.tx.lt e)⟩
  clear hK K hbx
  try simp only [Act.put, List.setIfInBounds_toArray, List.set_cons_zero, List.set_cons_succ]
  refine wpAnyH_ready (rs := [10]) (by kernel_rfl) (by simp) ?_
  refine Rg.readyL (i := 10) rfl (fun K hK => ?_)
  refine Rg.meetStore (by rfl) h9 68 (bodyA s m) ⟨_, _, rfl, rfl, rfl⟩ info_body rfl (bodyA_one _ _) ?_
  rintro wu hn hu
  have HO9 : Hid (Rg.Own wu b9 (bodyA s m) 68) := Lib.hid hn
  have HB10 : Hid (Below wG.heap.size wG wu) := Lib.hid (hu.below HB9.out (by rw [HG9.out]; exact Nat.le_refl _))
  refine hK.out _ _ ?_ (fun hHeld => ?_)
  · exact ⟨HGG.out.own.below HB10.out, HO0.out.below HB10.out, HGG.out.tx.same fun b e => HB10.out.block b (HGG.out.tx.lt e)⟩
  clear hK K hn hu h9 HB9
  try simp only [Act.put, List.setIfInBounds_toArray, List.set_cons_zero, List.set_cons_succ]
  refine Rg.takeL (i := 11) (v := ?_) rfl (by kernel_rfl) (by kernel_rfl) (by kernel_rfl) (fun _ _ _ h => h) (Or.inl ⟨by rfl, ?_⟩) (by assumption) ?_
  rotate_left
  · (intro wz hSw; (try dsimp only at hSw); go_simp <;> with_reducible rfl)
  try simp only [Act.put, List.setIfInBounds_toArray, List.set_cons_zero, List.set_cons_succ]
  refine wpAnyH_done (by kernel_rfl) ?_ _
  refine NoPanic.normal ?_
  clear hHeld
  have HGu := Lib.hid (HGG.out.below HB10.out)
  have HBb : Hid (bb < b9 ∧ g0 < b9) := Lib.hid ⟨by rw [HG9.out]; exact HGG.out.own.1, by rw [HG9.out]; exact HO0.out.1⟩
  have HNB : Hid (¬ KS bb tm hm M b9 ∧ ¬ KS bb tm hm M g0) := Lib.hid ⟨fun g => by have := HGG.out.lt _ g; have := HG9.out; omega, fun g => by have := HLt.out _ g; have := HG0.out; omega⟩
  have HFu := Lib.hid (((FrK.start (KS bb tm hm M) w).more HBG.out).more HB10.out)
  have q0 := bd0 HO9.out
  have hss : (s.toList == s.toList) = true := by simp
  have HGw := HGu
  have HOb := HO9
  have HOk := Lib.hid (HO0.out.below HB10.out)
  have HFw := HFu
  obtain ⟨wf, hwf⟩ : ∃ wf, wf = wu := ⟨_, rfl⟩
  rw [← hwf] at HGw HOb HOk HFw q0 ⊢
  clear hwf
  go_wp2_with fail
  refine wp_region_noPanic ?_
  refine wp_region_held_drew (S := fun wz => Rg.Own wz bb (objA tm hm n tw) 56 ∧ Rg.Own wz g0 k 43 ∧ MoH wz hm (hF M) Nh ∧ MoS wz (M e) (fix_ l e) (exN l e)) (by kernel_rfl) (⟨HGw.out.own, HOk.out, HGw.out.hd.same fun _ _ => rfl, (HGw.out.inn e).same fun _ _ => rfl⟩) (fun hHeld => ?_)
  refine Rg.takeL (i := 0) (v := ?_) rfl (by kernel_rfl) (by kernel_rfl) (by kernel_rfl) (fun _ _ _ h => h) (Or.inl ⟨by rfl, ?_⟩) (by assumption) ?_
  rotate_left
  · (intro wz hSw; (try dsimp only at hSw); go_simp <;> with_reducible rfl)
  try simp only [Act.put, List.setIfInBounds_toArray, List.set_cons_zero, List.set_cons_succ]
  refine Rg.takeL (i := 1) (v := ?_) rfl (by kernel_rfl) (by kernel_rfl) (by kernel_rfl) (fun _ _ _ h => h) (Or.inl ⟨by rfl, ?_⟩) (by assumption) ?_
  rotate_left
  · (intro wz hSw; (try dsimp only at hSw); go_simp <;> with_reducible rfl)
  try simp only [Act.put, List.setIfInBounds_toArray, List.set_cons_zero, List.set_cons_succ]
  refine Rg.takeL (i := 2) (v := ?_) rfl (by kernel_rfl) (by kernel_rfl) (by kernel_rfl) (fun _ _ _ h => h) (Or.inl ⟨by rfl, ?_⟩) (by assumption) ?_
  rotate_left
  · (intro wz hSw; (try dsimp only at hSw); go_simp <;> with_reducible rfl)
  try simp only [Act.put, List.setIfInBounds_toArray, List.set_cons_zero, List.set_cons_succ]
  refine Rg.takeL (i := 3) (v := ?_) rfl (by kernel_rfl) (by kernel_rfl) (by kernel_rfl) (fun _ _ _ h => h) (Or.inl ⟨by rfl, ?_⟩) (by assumption) ?_
  rotate_left
  · (intro wz hSw; (have q0 := ob1 hSw.1; go_simp <;> with_reducible rfl))
  try simp only [Act.put, List.setIfInBounds_toArray, List.set_cons_zero, List.set_cons_succ]
  refine Rg.takeL (i := 4) (v := ?_) rfl (by kernel_rfl) (by kernel_rfl) (by kernel_rfl) (fun _ _ _ h => h) (Or.inl ⟨by rfl, ?_⟩) (by assumption) ?_
  rotate_left
  · (intro wz hSw; (try dsimp only at hSw); go_simp <;> with_reducible rfl)
  try simp only [Act.put, List.setIfInBounds_toArray, List.set_cons_zero, List.set_cons_succ]
  refine Rg.takeL (i := 5) (v := ?_) rfl (by kernel_rfl) (by kernel_rfl) (by kernel_rfl) (fun _ _ _ h => h) (Or.inl ⟨by rfl, ?_⟩) (by assumption) ?_
  rotate_left
  · (intro wz hSw; (refine op_lookH' hSw.2.2.1 HE.out rfl ?_; exact ⟨_, _, rfl, rfl, rfl⟩))
  try simp only [Act.put, List.setIfInBounds_toArray, List.set_cons_zero, List.set_cons_succ]
  refine Rg.takeL (i := 6) (v := ?_) rfl (by kernel_rfl) (by kernel_rfl) (by kernel_rfl) (fun _ _ _ h => h) (Or.inl ⟨by rfl, ?_⟩) (by assumption) ?_
  rotate_left
  · (intro wz hSw; (refine op_ldK HX.out HKx.out hSw.2.1 ?_; exact ⟨_, rfl, rfl⟩))
  try simp only [Act.put, List.setIfInBounds_toArray, List.set_cons_zero, List.set_cons_succ]
  refine Rg.takeL (i := 7) (v := ?_) rfl (by kernel_rfl) (by kernel_rfl) (by kernel_rfl) (fun _ _ _ h => h) (Or.inl ⟨by rfl, ?_⟩) (by assumption) ?_
  rotate_left
  · (intro wz hSw; (refine op_lookI' (V := .int .i64 0) hSw.2.2.2 HX.out HKx.out HVi.out ?_; exact ⟨_, _, rfl, rfl, rfl⟩))
  try simp only [Act.put, List.setIfInBounds_toArray, List.set_cons_zero, List.set_cons_succ]
  refine Rg.takeL (i := 8) (v := ?_) rfl (by kernel_rfl) (by kernel_rfl) (by kernel_rfl) (fun _ _ _ h => h) (Or.inl ⟨by rfl, ?_⟩) (by assumption) ?_
  rotate_left
  · (intro wz hSw; (have q0 := HC0.out; have q9 := HC1.out; go_simp <;> with_reducible rfl))
  try simp only [Act.put, List.setIfInBounds_toArray, List.set_cons_zero, List.set_cons_succ]
  refine wpAnyH_done (by kernel_rfl) ?_ _
  refine NoPanic.normal ?_
  clear hHeld
  have hb8 := (Below.refl wf.heap.size wf).drew
  have HGy := Lib.hid (HGw.out.below hb8)
  have HOx := Lib.hid (HOb.out.below hb8)
  have HOkx := Lib.hid (HOk.out.below hb8)
  have HFx := Lib.hid (HFw.out.more hb8)
  obtain ⟨wx, hwx⟩ : ∃ wx, wx = wf.drew := ⟨_, rfl⟩
  rw [← hwx] at HGy HOx HOkx HFx ⊢
  clear hb8 hwx
  have q7 : wx.cell? ⟨b9, 1, none⟩ = some (.int .i64 (m : Nat)) := bd1 HOx.out
  have q8 : IntKind.i64.wrap (((m : Nat) : Int) + 1) = ((m + 1 : Nat) : Int) := by
    have := HMe.out
    simp only [IntKind.wrap_i64, wrap64]
    omega
  go_wp2_with (first
    | (refine elimW (R := fun w' => Rg.Own w' b9 (bodyA s (m + 1)) 68 ∧ Rg.Upd wx b9 w') rfl ⟨_, run_stI HOx.out (by simp [bodyA]) _ ⟨_, _, rfl, rfl, rfl⟩, own_set HOx.out _, upd_set _ _ _ _⟩ ?_; rintro wy ⟨hoo, huu⟩; have HOy := Lib.hid hoo; have HGz := Lib.hid (HGy.out.off huu HNB.out.1); have HOky := Lib.hid (HOkx.out.upd huu (by have := HBb.out; omega)); have HFy := Lib.hid (HFx.out.upd huu (.inr (by have := HBG.out.size; have := HG9.out; omega))); clear hoo huu)
    | (refine Rg.run rfl _ _ (op_ldK HX.out HKx.out HOky.out ⟨_, rfl, rfl⟩) ?_)
    | (refine Rg.run rfl _ _ (op_ldB HOy.out ⟨_, rfl, rfl⟩) ?_))
  have HH := hold_any s (m + 1) HGz.out HE.out HX.out (by have := texts_le l; have := HNL.out; unfold maxLen; omega) (by have := ex_le l e; have := HNL.out; unfold maxLen; omega) (by have := HNh.out; have := HNL.out; unfold maxLen; omega) HVi.out HCb.out.1 HCb.out.2
  rw [HKx.out] at HH
  refine HH.mono ?_
  rintro e9 w9 ⟨rfl, tm', hm', M', Nh', hg', h1, h3, h4, hf⟩
  have HRes : Hid (PutQ bb tm hm M l tw e s w (.returned (.int .i64 0)) w9) := Lib.hid (by
    have hg := hg'
    rw [← HXs.out] at hg
    exact ⟨0, putR l e s, tw, tm', hm', M', rfl, .inr ⟨HNs.out, rfl, rfl, rfl⟩, st_put HF.out.ok HSt.out.o HNs.out HSt.out.full HNe.out (fun hM => (ex_none HGz.out hM).2) (by rw [HZ.out, HNn.out]) HEp.out HCc.out.symm hg h1 h3, HFy.out.trans hf⟩)
  clear HH hg' h1 h3 h4 hf
  go_wp2
  go_ret
  exact HRes.out
set_option maxHeartbeats 8000000 in
theorem put_new {l : List Rw} {s : ByteArray} (h : St bb tm hm M l tw w) (hF : Bd.Fine 40 l) (he0 : 0 ≤ e) (he1 : e ≤ 1048576) (hs0 : 32 ≤ s.size) (hs1 : s.size ≤ 200) (ht : ∀ t ∈ textsR l, sumB t ≠ sumB s) :
    Calls Tryd.prog 26 #[.pointer (some ⟨bb, 0, none⟩), .int .i64 e, .string s, .agg (kc (sumB s))] w (PutQ bb tm hm M l tw e s w) := by
  have hok := hF.ok
  obtain ⟨Nh, hNe, g⟩ := h.g
  have hNh : Nh ≤ l.length := by rw [hNe]; exact epochs_le l
  have HNe := Lib.hid hNe
  have HSt := Lib.hid h
  have HF := Lib.hid hF
  have HE := Lib.hid (w64_in he0 he1)
  have HX : Hid (L32 (sumB s)) := Lib.hid (sumB_length s)
  have HNh := Lib.hid hNh
  have HSz : Hid (32 ≤ s.size ∧ s.size ≤ 200) := Lib.hid ⟨hs0, hs1⟩
  have HNL := Lib.hid hF.len
  have hr : hasR l e s = false := by
    cases hh : hasR l e s with
    | false => rfl
    | true =>
      obtain ⟨r, hr, _, h2⟩ := hasR_iff.1 hh
      exact absurd rfl (ht s (mem_texts.2 ⟨r, hr, h2⟩))
  have hs : ∀ t ∈ textsR l, sumB t = sumB s → t = s := fun t h g => absurd g (ht t h)
  have HVt : Hid ((ftx l (sumB s)).getD (bodyV eB 0) = .agg (bodyA eB 0)) := Lib.hid (by rw [ftx_none fun r hr => ht _ (mem_texts.2 ⟨r, hr, rfl⟩)]; rfl)
  have HVb : Hid ((ftx l (sumB s)).isSome = false) := Lib.hid (by rw [ftx_none fun r hr => ht _ (mem_texts.2 ⟨r, hr, rfl⟩)]; rfl)
  have HZ : Hid (sizeT (textsR (putR l e s)) = s.size + sizeT (textsR l)) := Lib.hid ((put_size hok e s).2 fun g => absurd rfl (ht s g))
  have HNs := Lib.hid hs
  have HVi := Lib.hid (fix_get hok.u h.o (e := e) hs)
  have HEp : Hid (1 = epN (putR l e s) s) := Lib.hid (by
    have h1 := (oth_put hok e s).ep
    rw [put_hasR hok e s, hr] at h1
    simp at h1
    have h2 : ¬ 0 < epN l s := fun g => by
      obtain ⟨r, h3, h4⟩ := ep_pos.1 g
      exact absurd rfl (ht s (mem_texts.2 ⟨r, h3, h4⟩))
    omega)
  have HCc : Hid (cntR l e s = 0) := Lib.hid (by
    have h1 := cnt_pos hok.n (e := e) (s := s)
    have h2 := cnt_nonneg hok.n e s
    have h3 : ¬ 0 < cntR l e s := fun g => by rw [hasR_iff.2 (h1.1 g)] at hr; cases hr
    omega)
  rw [HCc.out] at HVi
  have HC0 : Hid (((0 : Int) == 0) = true) := Lib.hid rfl
  have HC1 : Hid (decide ((0 : Int) = 0) = true) := Lib.hid rfl
  have HCb : Hid ((0 : Int) ≤ 0 ∧ (0 : Int) ≤ 1000000) := Lib.hid ⟨by omega, by omega⟩
  obtain ⟨x, hx⟩ : ∃ x, sumB s = x := ⟨_, rfl⟩
  have HXs := Lib.hid hx
  rw [hx] at HX HVt HVb HVi
  obtain ⟨n, hn⟩ : ∃ n : Nat, sizeT (textsR l) = n := ⟨_, rfl⟩
  have HNn := Lib.hid hn
  have HNn8 : Hid (n ≤ 8000) := Lib.hid (by
    rw [← hn]
    have h1 := sizeT_le (T := textsR l) (fun t ht => by
      obtain ⟨r, hr, rfl⟩ := mem_texts.1 ht
      exact (hF.row r hr).2.2.1) (textsR l).length
    rw [List.take_length] at h1
    have := texts_le l
    have := hF.len
    omega)
  rw [hn] at g
  obtain ⟨k, hk⟩ : ∃ k, kc x = k := ⟨_, rfl⟩
  have HKx := Lib.hid hk
  have HCl : Hid (∀ w, Calls Tryd.prog 36 #[.string s] w fun e w' => e = .returned (.string s) ∧ Below w.heap.size w w') := Lib.hid fun w => clone_any s (by omega) w
  obtain ⟨wG, hwG⟩ : ∃ wG, wG = w.alloc (.cells k 43) := ⟨_, rfl⟩
  have hbG : Below w.heap.size w wG := by rw [hwG]; exact al1 _ _
  have HBG := Lib.hid hbG
  have HGG := Lib.hid (g.below hbG)
  have HO0 : Hid (Rg.Own wG w.heap.size k 43) := Lib.hid (by rw [hwG]; exact Rg.Own.new _ _ _)
  have HWG := Lib.hid hwG
  have HLt := Lib.hid g.lt
  rw [hx, hk]
  clear hk hx hn h hF he0 he1 hs0 hs1 hok hNh hNe g hbG hwG hr hs ht
  go_enter Tryd.func26, Tryd.ntmps26
  go_wp2_with fail
  rw [← HWG.out]
  obtain ⟨g0, hg0⟩ : ∃ g, w.heap.size = g := ⟨_, rfl⟩
  have HG0 : Hid (g0 = w.heap.size) := Lib.hid hg0.symm
  rw [hg0] at HO0 ⊢
  clear hg0 HWG
  refine wp_region_noPanic ?_
  refine wp_region_held_drew (S := fun wz => Rg.Own wz bb (objA tm hm n tw) 56 ∧ Rg.Own wz g0 k 43 ∧ MoS wz tm (ftx l) (textsR l).length) (by kernel_rfl) (⟨HGG.out.own, HO0.out, HGG.out.tx.same fun _ _ => rfl⟩) (fun hHeld => ?_)
  refine Rg.takeL (i := 0) (v := ?_) rfl (by kernel_rfl) (by kernel_rfl) (by kernel_rfl) (fun _ _ _ h => h) (Or.inl ⟨by rfl, ?_⟩) (by assumption) ?_
  rotate_left
  · (intro wz hSw; (try dsimp only at hSw); go_simp <;> with_reducible rfl)
  try simp only [Act.put, List.setIfInBounds_toArray, List.set_cons_zero, List.set_cons_succ]
  refine Rg.takeL (i := 1) (v := ?_) rfl (by kernel_rfl) (by kernel_rfl) (by kernel_rfl) (fun _ _ _ h => h) (Or.inl ⟨by rfl, ?_⟩) (by assumption) ?_
  rotate_left
  · (intro wz hSw; (try dsimp only at hSw); go_simp <;> with_reducible rfl)
  try simp only [Act.put, List.setIfInBounds_toArray, List.set_cons_zero, List.set_cons_succ]
  refine Rg.takeL (i := 2) (v := ?_) rfl (by kernel_rfl) (by kernel_rfl) (by kernel_rfl) (fun _ _ _ h => h) (Or.inl ⟨by rfl, ?_⟩) (by assumption) ?_
  rotate_left
  · (intro wz hSw; (try dsimp only at hSw); go_simp <;> with_reducible rfl)
  try simp only [Act.put, List.setIfInBounds_toArray, List.set_cons_zero, List.set_cons_succ]
  refine Rg.takeL (i := 3) (v := ?_) rfl (by kernel_rfl) (by kernel_rfl) (by kernel_rfl) (fun _ _ _ h => h) (Or.inl ⟨by rfl, ?_⟩) (by assumption) ?_
  rotate_left
  · (intro wz hSw; (have q0 := ob0 hSw.1; go_simp <;> with_reducible rfl))
  try simp only [Act.put, List.setIfInBounds_toArray, List.set_cons_zero, List.set_cons_succ]
  refine Rg.takeL (i := 4) (v := ?_) rfl (by kernel_rfl) (by kernel_rfl) (by kernel_rfl) (fun _ _ _ h => h) (Or.inl ⟨by rfl, ?_⟩) (by assumption) ?_
  rotate_left
  · (intro wz hSw; (refine op_ldK HX.out HKx.out hSw.2.1 ?_; exact ⟨_, rfl, rfl⟩))
  try simp only [Act.put, List.setIfInBounds_toArray, List.set_cons_zero, List.set_cons_succ]
  refine Rg.takeL (i := 5) (v := ?_) rfl (by kernel_rfl) (by kernel_rfl) (by kernel_rfl) (fun _ _ _ h => h) (Or.inl ⟨by rfl, ?_⟩) (by assumption) ?_
  rotate_left
  · (intro wz hSw; (refine op_lookT2' hSw.2.2 HX.out HKx.out HVt.out HVb.out ?_; exact ⟨_, _, rfl, rfl, rfl⟩))
  try simp only [Act.put, List.setIfInBounds_toArray, List.set_cons_zero, List.set_cons_succ]
  refine Rg.takeL (i := 6) (v := ?_) rfl (by kernel_rfl) (by kernel_rfl) (by kernel_rfl) (fun _ _ _ h => h) (Or.inl ⟨by rfl, ?_⟩) (by assumption) ?_
  rotate_left
  · (intro wz hSw; (try dsimp only at hSw); go_simp <;> with_reducible rfl)
  try simp only [Act.put, List.setIfInBounds_toArray, List.set_cons_zero, List.set_cons_succ]
  refine Rg.takeL (i := 7) (v := ?_) rfl (by kernel_rfl) (by kernel_rfl) (by kernel_rfl) (fun _ _ _ h => h) (Or.inl ⟨by rfl, ?_⟩) (by assumption) ?_
  rotate_left
  · (intro wz hSw; (try dsimp only at hSw); go_simp <;> with_reducible rfl)
  try simp only [Act.put, List.setIfInBounds_toArray, List.set_cons_zero, List.set_cons_succ]
  refine Rg.takeL (i := 8) (v := ?_) rfl (by kernel_rfl) (by kernel_rfl) (by kernel_rfl) (fun _ _ _ h => h) (Or.inl ⟨by rfl, ?_⟩) (by assumption) ?_
  rotate_left
  · (intro wz hSw; (try dsimp only at hSw); go_simp <;> with_reducible rfl)
  try simp only [Act.put, List.setIfInBounds_toArray, List.set_cons_zero, List.set_cons_succ]
  refine wpAnyH_ready (rs := [9]) (by kernel_rfl) (by simp) ?_
  refine Rg.readyL (i := 9) rfl (fun K hK => ?_)
  refine Rg.meetAlloc (by rfl) (run_alloc_body _ _ _ _ rfl rfl) ?_
  rintro wv b9 he9 h9 hbx
  have HG9 : Hid (b9 = wG.heap.size) := Lib.hid he9
  have HB9 : Hid (Below wG.heap.size wG wv) := Lib.hid ((Below.refl _ _).drew.trans hbx)
  clear he9
  refine hK.out _ _ ?_ (fun hHeld => ?_)
  · exact ⟨HGG.out.own.below HB9.out, HO0.out.below HB9.out, HGG.out.tx.same fun b e => HB9.out.block b (HGG.out.tx.lt e)⟩
  clear hK K hbx
  try simp only [Act.put, List.setIfInBounds_toArray, List.set_cons_zero, List.set_cons_succ]
  refine wpAnyH_ready (rs := [10]) (by kernel_rfl) (by simp) ?_
  refine Rg.readyL (i := 10) rfl (fun K hK => ?_)
  refine Rg.meetStore (by rfl) h9 68 (bodyA eB 0) ⟨_, _, rfl, rfl, rfl⟩ info_body rfl (bodyA_one _ _) ?_
  rintro wu hn hu
  have HO9 : Hid (Rg.Own wu b9 (bodyA eB 0) 68) := Lib.hid hn
  have HB10 : Hid (Below wG.heap.size wG wu) := Lib.hid (hu.below HB9.out (by rw [HG9.out]; exact Nat.le_refl _))
  refine hK.out _ _ ?_ (fun hHeld => ?_)
  · exact ⟨HGG.out.own.below HB10.out, HO0.out.below HB10.out, HGG.out.tx.same fun b e => HB10.out.block b (HGG.out.tx.lt e)⟩
  clear hK K hn hu h9 HB9
  try simp only [Act.put, List.setIfInBounds_toArray, List.set_cons_zero, List.set_cons_succ]
  refine Rg.takeL (i := 11) (v := ?_) rfl (by kernel_rfl) (by kernel_rfl) (by kernel_rfl) (fun _ _ _ h => h) (Or.inl ⟨by rfl, ?_⟩) (by assumption) ?_
  rotate_left
  · (intro wz hSw; (try dsimp only at hSw); go_simp <;> with_reducible rfl)
  try simp only [Act.put, List.setIfInBounds_toArray, List.set_cons_zero, List.set_cons_succ]
  refine wpAnyH_done (by kernel_rfl) ?_ _
  refine NoPanic.normal ?_
  clear hHeld
  have HGu := Lib.hid (HGG.out.below HB10.out)
  have HBb : Hid (bb < b9 ∧ g0 < b9) := Lib.hid ⟨by rw [HG9.out]; exact HGG.out.own.1, by rw [HG9.out]; exact HO0.out.1⟩
  have HNB : Hid (¬ KS bb tm hm M b9 ∧ ¬ KS bb tm hm M g0) := Lib.hid ⟨fun g => by have := HGG.out.lt _ g; have := HG9.out; omega, fun g => by have := HLt.out _ g; have := HG0.out; omega⟩
  have HFu := Lib.hid (((FrK.start (KS bb tm hm M) w).more HBG.out).more HB10.out)
  have q0 := bd0 HO9.out
  have HS5 : Hid (IntKind.i64.wrap ((n : Int) + (s.size : Int)) = ((n + s.size : Nat) : Int)) := Lib.hid (by
    have h1 : n ≤ 8000 := HNn8.out
    have h2 := HSz.out
    simp only [IntKind.wrap_i64, wrap64]
    omega)
  go_wp2_with fail
  refine (HCl.out _).mono ?_
  rintro e9 wc ⟨rfl, hbc⟩
  have HOc := Lib.hid (HO9.out.below hbc)
  have HGc := Lib.hid (HGu.out.below hbc)
  have HBc := Lib.hid hbc
  have q2 := ob2 HGc.out.own
  have q5 := HS5.out
  clear hbc q0
  go_wp2_with (first
    | (refine elimW (R := fun w' => Rg.Own w' b9 (bodyA s 0) 68 ∧ Rg.Upd wc b9 w') rfl ⟨_, run_stS HOc.out (by simp [bodyA]) s ⟨_, _, rfl, rfl, rfl⟩, own_set HOc.out _, upd_set _ _ _ _⟩ ?_; rintro wd ⟨hoo, huu⟩; have HOd := Lib.hid hoo; have HUd := Lib.hid huu; have HGd := Lib.hid (HGc.out.off huu HNB.out.1); have q3 := ob2 HGd.out.own; clear hoo huu)
    | (refine elimW (R := fun w' => Rg.Own w' bb (objA tm hm ((n + s.size : Nat) : Int) tw) 56 ∧ Rg.Upd wd bb w') rfl ⟨_, run_stI HGd.out.own (by simp [objA]) _ ⟨_, _, rfl, rfl, rfl⟩, own_set HGd.out.own _, upd_set _ _ _ _⟩ ?_; rintro wf ⟨hoo, huu⟩; have HGw := Lib.hid (HGd.out.cells huu hoo); have HOb := Lib.hid (HOd.out.upd huu (by have := HBb.out; omega)); have HFw := Lib.hid (((HFu.out.more HBc.out).upd HUd.out (.inr (by have := HBG.out.size; have := HG9.out; omega))).upd huu (.inl (.inl rfl))); have HOk := Lib.hid ((((HO0.out.below HB10.out).below HBc.out).upd HUd.out (by have := HBb.out; omega)).upd huu (fun g => HNB.out.2 (.inl g))); clear hoo huu))
  refine wp_region_noPanic ?_
  refine wp_region_held_drew (S := fun wz => Rg.Own wz bb (objA tm hm ((n + s.size : Nat) : Int) tw) 56 ∧ Rg.Own wz g0 k 43 ∧ MoH wz hm (hF M) Nh ∧ MoS wz (M e) (fix_ l e) (exN l e)) (by kernel_rfl) (⟨HGw.out.own, HOk.out, HGw.out.hd.same fun _ _ => rfl, (HGw.out.inn e).same fun _ _ => rfl⟩) (fun hHeld => ?_)
  refine Rg.takeL (i := 0) (v := ?_) rfl (by kernel_rfl) (by kernel_rfl) (by kernel_rfl) (fun _ _ _ h => h) (Or.inl ⟨by rfl, ?_⟩) (by assumption) ?_
  rotate_left
  · (intro wz hSw; (try dsimp only at hSw); go_simp <;> with_reducible rfl)
  try simp only [Act.put, List.setIfInBounds_toArray, List.set_cons_zero, List.set_cons_succ]
  refine Rg.takeL (i := 1) (v := ?_) rfl (by kernel_rfl) (by kernel_rfl) (by kernel_rfl) (fun _ _ _ h => h) (Or.inl ⟨by rfl, ?_⟩) (by assumption) ?_
  rotate_left
  · (intro wz hSw; (try dsimp only at hSw); go_simp <;> with_reducible rfl)
  try simp only [Act.put, List.setIfInBounds_toArray, List.set_cons_zero, List.set_cons_succ]
  refine Rg.takeL (i := 2) (v := ?_) rfl (by kernel_rfl) (by kernel_rfl) (by kernel_rfl) (fun _ _ _ h => h) (Or.inl ⟨by rfl, ?_⟩) (by assumption) ?_
  rotate_left
  · (intro wz hSw; (try dsimp only at hSw); go_simp <;> with_reducible rfl)
  try simp only [Act.put, List.setIfInBounds_toArray, List.set_cons_zero, List.set_cons_succ]
  refine Rg.takeL (i := 3) (v := ?_) rfl (by kernel_rfl) (by kernel_rfl) (by kernel_rfl) (fun _ _ _ h => h) (Or.inl ⟨by rfl, ?_⟩) (by assumption) ?_
  rotate_left
  · (intro wz hSw; (have q0 := ob1 hSw.1; go_simp <;> with_reducible rfl))
  try simp only [Act.put, List.setIfInBounds_toArray, List.set_cons_zero, List.set_cons_succ]
  refine Rg.takeL (i := 4) (v := ?_) rfl (by kernel_rfl) (by kernel_rfl) (by kernel_rfl) (fun _ _ _ h => h) (Or.inl ⟨by rfl, ?_⟩) (by assumption) ?_
  rotate_left
  · (intro wz hSw; (try dsimp only at hSw); go_simp <;> with_reducible rfl)
  try simp only [Act.put, List.setIfInBounds_toArray, List.set_cons_zero, List.set_cons_succ]
  refine Rg.takeL (i := 5) (v := ?_) rfl (by kernel_rfl) (by kernel_rfl) (by kernel_rfl) (fun _ _ _ h => h) (Or.inl ⟨by rfl, ?_⟩) (by assumption) ?_
  rotate_left
  · (intro wz hSw; (refine op_lookH' hSw.2.2.1 HE.out rfl ?_; exact ⟨_, _, rfl, rfl, rfl⟩))
  try simp only [Act.put, List.setIfInBounds_toArray, List.set_cons_zero, List.set_cons_succ]
  refine Rg.takeL (i := 6) (v := ?_) rfl (by kernel_rfl) (by kernel_rfl) (by kernel_rfl) (fun _ _ _ h => h) (Or.inl ⟨by rfl, ?_⟩) (by assumption) ?_
  rotate_left
  · (intro wz hSw; (refine op_ldK HX.out HKx.out hSw.2.1 ?_; exact ⟨_, rfl, rfl⟩))
  try simp only [Act.put, List.setIfInBounds_toArray, List.set_cons_zero, List.set_cons_succ]
  refine Rg.takeL (i := 7) (v := ?_) rfl (by kernel_rfl) (by kernel_rfl) (by kernel_rfl) (fun _ _ _ h => h) (Or.inl ⟨by rfl, ?_⟩) (by assumption) ?_
  rotate_left
  · (intro wz hSw; (refine op_lookI' (V := .int .i64 0) hSw.2.2.2 HX.out HKx.out HVi.out ?_; exact ⟨_, _, rfl, rfl, rfl⟩))
  try simp only [Act.put, List.setIfInBounds_toArray, List.set_cons_zero, List.set_cons_succ]
  refine Rg.takeL (i := 8) (v := ?_) rfl (by kernel_rfl) (by kernel_rfl) (by kernel_rfl) (fun _ _ _ h => h) (Or.inl ⟨by rfl, ?_⟩) (by assumption) ?_
  rotate_left
  · (intro wz hSw; (have q0 := HC0.out; have q9 := HC1.out; go_simp <;> with_reducible rfl))
  try simp only [Act.put, List.setIfInBounds_toArray, List.set_cons_zero, List.set_cons_succ]
  refine wpAnyH_done (by kernel_rfl) ?_ _
  refine NoPanic.normal ?_
  clear hHeld
  have hb8 := (Below.refl wf.heap.size wf).drew
  have HGy := Lib.hid (HGw.out.below hb8)
  have HOx := Lib.hid (HOb.out.below hb8)
  have HOkx := Lib.hid (HOk.out.below hb8)
  have HFx := Lib.hid (HFw.out.more hb8)
  obtain ⟨wx, hwx⟩ : ∃ wx, wx = wf.drew := ⟨_, rfl⟩
  rw [← hwx] at HGy HOx HOkx HFx ⊢
  clear hb8 hwx
  have q7 : wx.cell? ⟨b9, 1, none⟩ = some (.int .i64 (0 : Nat)) := bd1 HOx.out
  have q8 : IntKind.i64.wrap (((0 : Nat) : Int) + 1) = ((0 + 1 : Nat) : Int) := by
    simp only [IntKind.wrap_i64, wrap64]
    omega
  go_wp2_with (first
    | (refine elimW (R := fun w' => Rg.Own w' b9 (bodyA s (0 + 1)) 68 ∧ Rg.Upd wx b9 w') rfl ⟨_, run_stI HOx.out (by simp [bodyA]) _ ⟨_, _, rfl, rfl, rfl⟩, own_set HOx.out _, upd_set _ _ _ _⟩ ?_; rintro wy ⟨hoo, huu⟩; have HOy := Lib.hid hoo; have HGz := Lib.hid (HGy.out.off huu HNB.out.1); have HOky := Lib.hid (HOkx.out.upd huu (by have := HBb.out; omega)); have HFy := Lib.hid (HFx.out.upd huu (.inr (by have := HBG.out.size; have := HG9.out; omega))); clear hoo huu)
    | (refine Rg.run rfl _ _ (op_ldK HX.out HKx.out HOky.out ⟨_, rfl, rfl⟩) ?_)
    | (refine Rg.run rfl _ _ (op_ldB HOy.out ⟨_, rfl, rfl⟩) ?_))
  have HH := hold_any s (0 + 1) HGz.out HE.out HX.out (by have := texts_le l; have := HNL.out; unfold maxLen; omega) (by have := ex_le l e; have := HNL.out; unfold maxLen; omega) (by have := HNh.out; have := HNL.out; unfold maxLen; omega) HVi.out HCb.out.1 HCb.out.2
  rw [HKx.out] at HH
  refine HH.mono ?_
  rintro e9 w9 ⟨rfl, tm', hm', M', Nh', hg', h1, h3, h4, hf⟩
  have HRes : Hid (PutQ bb tm hm M l tw e s w (.returned (.int .i64 0)) w9) := Lib.hid (by
    have hg := hg'
    rw [← HXs.out] at hg
    exact ⟨0, putR l e s, tw, tm', hm', M', rfl, .inr ⟨HNs.out, rfl, rfl, rfl⟩, st_put HF.out.ok HSt.out.o HNs.out HSt.out.full HNe.out (fun hM => (ex_none HGz.out hM).2) (by rw [HZ.out, HNn.out]; omega) HEp.out HCc.out.symm hg h1 h3, HFy.out.trans hf⟩)
  clear HH hg' h1 h3 h4 hf
  go_wp2
  go_ret
  exact HRes.out
end
end Bd
end Go.Proofs.YtlembfhdljmcoaaDoor

/-
  Layer 12: the contract of Put.
-/
namespace Go.Proofs.YtlembfhdljmcoaaDoor
set_option maxRecDepth 20000
open Go.RowKit Go.Maps

namespace Bd
open Rf Sm
section
variable {bb : Nat} {tm hm : Option Nat} {M : Int → Option Nat} {w : World} {e : Int} {tw : Option (ByteArray × ByteArray)}
theorem sum_ofB (s : ByteArray) (hs : s.size ≤ 900000) (w : World) (hT : Tab w) : Calls Tryd.prog 24 #[.string s] w fun e w' => e = .returned (.agg (kc (sumB s))) ∧ Below w.heap.size w w' := of_any s hs w hT
theorem put_any {l : List Rw} {s : ByteArray} (h : St bb tm hm M l tw w) (hF : Bd.Fine 40 l) (he0 : 0 ≤ e) (he1 : e ≤ 1048576) (hs0 : 32 ≤ s.size) (hs1 : s.size ≤ 200) :
    Calls Tryd.prog 26 #[.pointer (some ⟨bb, 0, none⟩), .int .i64 e, .string s, .agg (kc (sumB s))] w (PutQ bb tm hm M l tw e s w) := by
  by_cases h1 : ∃ y ∈ textsR l, sumB y = sumB s
  · obtain ⟨y, hy, hsum⟩ := h1
    by_cases hne : y = s
    · subst hne
      cases hr : hasR l e y with
      | true => exact put_row h hF he0 he1 hs0 hs1 hr
      | false => exact put_old h hF he0 he1 hs0 hs1 hr hy
    · exact put_clash h hF he0 he1 hs0 hs1 hy hne hsum
  · exact put_new h hF he0 he1 hs0 hs1 fun t ht g => h1 ⟨t, ht, g⟩
set_option maxHeartbeats 2000000 in
theorem Put_out {p : Option Addr} {l : List Rw} {K : Nat → Prop} (h : obj p l tw K w) (s : ByteArray) (hr : ¬ (0 ≤ e ∧ e ≤ 1048576)) : Calls Tryd.prog 13 #[.pointer p, .int .i64 e, .string s] w fun en w' => en = .returned (.int .i64 3) ∧ w' = w := by
  obtain ⟨bb, tm, hm, M, rfl, rfl, h⟩ := h
  clear h
  by_cases h1 : e < 0
  · have q1 : decide (e < 0) = true := decide_eq_true h1
    go_enter Tryd.func13, Tryd.ntmps13
    go_wp2_with fail
    go_ret
    exact ⟨rfl, rfl⟩
  · have q1 : decide (e < 0) = false := decide_eq_false h1
    have q2 : decide (e > 1048576) = true := decide_eq_true (by omega)
    have q3 : decide (1048576 < e) = true := decide_eq_true (by omega)
    go_enter Tryd.func13, Tryd.ntmps13
    go_wp2_with fail
    go_ret
    exact ⟨rfl, rfl⟩
set_option maxHeartbeats 2000000 in
theorem Put_short {p : Option Addr} {l : List Rw} {K : Nat → Prop} (h : obj p l tw K w) (s : ByteArray) (hr : 0 ≤ e ∧ e ≤ 1048576) (hs : s.size < 32) : Calls Tryd.prog 13 #[.pointer p, .int .i64 e, .string s] w fun en w' => en = .returned (.int .i64 5) ∧ w' = w := by
  obtain ⟨bb, tm, hm, M, rfl, rfl, h⟩ := h
  clear h
  have q1 : decide (e < 0) = false := decide_eq_false (by omega)
  have q2 : decide (e > 1048576) = false := decide_eq_false (by omega)
  have q3 : decide (1048576 < e) = false := decide_eq_false (by omega)
  have q4 : decide ((s.size : Int) < 32) = true := decide_eq_true (by omega)
  have q5 : decide (s.size < 32) = true := decide_eq_true hs
  go_enter Tryd.func13, Tryd.ntmps13
  go_wp2_with fail
  go_ret
  exact ⟨rfl, rfl⟩
set_option maxHeartbeats 2000000 in
theorem Put_in {l : List Rw} (h : St bb tm hm M l tw w) (hT : Tab w) (hF : Bd.Fine 40 l) (s : ByteArray) (hr : 0 ≤ e ∧ e ≤ 1048576) (hs : 32 ≤ s.size) (hs1 : s.size ≤ 200) : Calls Tryd.prog 13 #[.pointer (some ⟨bb, 0, none⟩), .int .i64 e, .string s] w (PutQ bb tm hm M l tw e s w) := by
  have q1 : decide (e < 0) = false := decide_eq_false (by omega)
  have q2 : decide (e > 1048576) = false := decide_eq_false (by omega)
  have q3 : decide (1048576 < e) = false := decide_eq_false (by omega)
  have q4 : decide ((s.size : Int) < 32) = false := decide_eq_false (by omega)
  have q5 : decide (s.size < 32) = false := decide_eq_false (by omega)
  have HOf := Lib.hid (sum_ofB s (by omega) w hT)
  have HP : Hid (∀ w', Below w.heap.size w w' → Calls Tryd.prog 26 #[.pointer (some ⟨bb, 0, none⟩), .int .i64 e, .string s, .agg (kc (sumB s))] w' (PutQ bb tm hm M l tw e s w)) := Lib.hid fun w' hb => (put_any (h.below hb) hF hr.1 hr.2 hs hs1).mono (by
    rintro en w9 ⟨r, l', tw', tm', hm', M', rfl, hq, hS, hf⟩
    exact ⟨r, l', tw', tm', hm', M', rfl, hq, hS, ((FrK.start _ w).more hb).trans hf⟩)
  obtain ⟨k, hk⟩ : ∃ k, kc (sumB s) = k := ⟨_, rfl⟩
  rw [hk] at HOf HP
  clear hk h hT hF hr hs hs1
  go_enter Tryd.func13, Tryd.ntmps13
  go_wp2_with fail
  refine HOf.out.mono ?_
  rintro e9 w1 ⟨rfl, hb1⟩
  have HP1 := Lib.hid (HP.out w1 hb1)
  clear hb1 HP HOf
  go_wp2_with fail
  refine HP1.out.mono ?_
  rintro e9 w2 ⟨r, l', tw', tm', hm', M', rfl, hq, hS, hf⟩
  have HR : Hid (PutQ bb tm hm M l tw e s w (.returned (.int .i64 r)) w2) := Lib.hid ⟨r, l', tw', tm', hm', M', rfl, hq, hS, hf⟩
  clear hq hS hf HP1
  go_wp2
  go_ret
  exact HR.out
theorem obj_put {p : Option Addr} {l : List Rw} {K : Nat → Prop} (s : ByteArray) (h : obj p l tw K w) (hT : Tab w) (hF : Bd.Fine 40 l) (hs : s.size ≤ 200) : Calls Tryd.prog 13 #[.pointer p, .int .i64 e, .string s] w fun en w' =>
    ∃ r l' tw' K', en = .returned (.int .i64 r) ∧ PutP l tw e s r l' tw' ∧ obj p l' tw' K' w' ∧ FrK K K' w w' := by
  by_cases hr : 0 ≤ e ∧ e ≤ 1048576
  · by_cases h32 : s.size < 32
    · refine (Put_short h s hr h32).mono ?_
      rintro en w' ⟨rfl, rfl⟩
      exact ⟨5, l, tw, K, rfl, .inr (.inl ⟨hr, h32, rfl, rfl, rfl⟩), h, FrK.start _ _⟩
    · obtain ⟨bb, tm, hm, M, rfl, rfl, h⟩ := h
      refine (Put_in h hT hF s hr (by omega) hs).mono ?_
      rintro en w' ⟨r, l', tw', tm', hm', M', rfl, hq, hS, hf⟩
      refine ⟨r, l', tw', KS bb tm' hm' M', rfl, ?_, ⟨bb, tm', hm', M', rfl, rfl, hS⟩, hf⟩
      rcases hq with ⟨rfl, rfl, hx⟩ | ⟨h1, rfl, rfl, rfl⟩
      · exact .inr (.inr (.inl ⟨hr, by omega, rfl, rfl, hx⟩))
      · exact .inr (.inr (.inr ⟨hr, by omega, h1, rfl, rfl, rfl⟩))
  · refine (Put_out h s hr).mono ?_
    rintro en w' ⟨rfl, rfl⟩
    exact ⟨3, l, tw, K, rfl, .inl ⟨hr, rfl, rfl, rfl⟩, h, FrK.start _ _⟩
end
end Bd
end Go.Proofs.YtlembfhdljmcoaaDoor

/-
  Layer 12: a store's memory where a row is taken out; the contract of leaver.
-/
namespace Go.Proofs.YtlembfhdljmcoaaDoor
set_option maxRecDepth 20000
open Go.RowKit Go.Maps

namespace Bd
open Rf Sm
section
variable {bb : Nat} {tm hm : Option Nat} {M : Int → Option Nat} {l : List Rw} {tw : Option (ByteArray × ByteArray)} {w w' : World} {e : Int} {s : ByteArray} {Nh : Nat} {n : Int}
theorem one_is {l : List Rw} (o : OneS l) {s : ByteArray} (h : ∃ r ∈ l, r.s = s) : ∀ t ∈ textsR l, sumB t = sumB s → t = s := fun t ht g => by
  obtain ⟨r, hr, rfl⟩ := h
  obtain ⟨r', hr', rfl⟩ := mem_texts.1 ht
  exact o r' hr' r hr g
/-- the sums behind a row that is taken out -/
theorem del_fix (u : UqR l) (o : OneS l) (hr : hasR l e s = true) : (∀ e' y, (fix_ (delR l e s) e' y = if e' = e then setF (fix_ l e) (sumB s) none y else fix_ l e' y)) ∧ exN (delR l e s) e + 1 = exN l e ∧ fewer (fix_ l e) (sumB s) (exN l e) = exN (delR l e s) e ∧ (∀ e', e' ≠ e → exN (delR l e s) e' = exN l e') ∧ epN (delR l e s) s + 1 = epN l s := by
  have ho := oth_del u e s
  have o' := one_del o e s
  have hs := one_is o (by obtain ⟨r, hr, _, h⟩ := hasR_iff.1 hr; exact ⟨r, hr, h⟩)
  have hex := ho.ex
  have hep := ho.ep
  rw [hr, del_has] at hex hep
  simp at hex hep
  refine ⟨fun e' y => ?_, hex, ?_, fun e' he => ho.ex_ne he, hep⟩
  · by_cases he : e' = e
    · subst he
      rw [if_pos rfl]
      unfold setF
      by_cases hx : y = sumB s
      · subst hx
        rw [if_pos rfl]
        refine fix_none fun r hr' h1 h2 => ?_
        have h3 : r.s = s := hs _ (mem_texts.2 ⟨r, (mem_del.1 hr').1, rfl⟩) h2
        have h4 := (mem_del.1 hr').2
        rw [hit_iff.2 ⟨h1, h3⟩] at h4
        cases h4
      · rw [if_neg hx]
        exact ho.fix_ne o o' fun g => hx g.2
    · rw [if_neg he]
      exact ho.fix_ne o o' fun g => he g.1
  · unfold fewer
    rw [fix_is u o hs, if_pos hr]
    omega
/-- the texts: others hold it still -/
theorem del_more (u : UqR l) (o : OneS l) (hp : 0 < epN (delR l e s) s) : (∀ y, ftx (delR l e s) y = setF (ftx l) (sumB s) (some (bodyV s (epN (delR l e s) s))) y) ∧ (textsR (delR l e s)).length = (textsR l).length ∧ more (ftx l) (sumB s) (textsR l).length = (textsR l).length ∧ sizeT (textsR (delR l e s)) = sizeT (textsR l) := by
  have ho := oth_del u e s
  have o' := one_del o e s
  have h1 := ep_pos.1 hp
  have h0 : ∃ r ∈ l, r.s = s := by obtain ⟨r, hr, h⟩ := h1; exact ⟨r, (mem_del.1 hr).1, h⟩
  have hpm := ho.texts_same ⟨fun _ => h0, fun _ => h1⟩
  refine ⟨fun y => ?_, hpm.length_eq, ?_, sizeT_perm hpm⟩
  · unfold setF
    by_cases hx : y = sumB s
    · subst hx
      rw [if_pos rfl]
      obtain ⟨r, hr, h⟩ := h1
      exact ftx_at o' hr h
    · rw [if_neg hx]
      exact ho.ftx_ne o o' hx
  · unfold more
    rw [if_pos ((ftx_is o (one_is o h0)).2 h0)]
/-- none does -/
theorem del_none (u : UqR l) (o : OneS l) (hr : hasR l e s = true) (hp : epN (delR l e s) s = 0) : (∀ y, ftx (delR l e s) y = setF (ftx l) (sumB s) none y) ∧ (textsR (delR l e s)).length + 1 = (textsR l).length ∧ fewer (ftx l) (sumB s) (textsR l).length = (textsR (delR l e s)).length ∧ sizeT (textsR l) = s.size + sizeT (textsR (delR l e s)) := by
  have ho := oth_del u e s
  have o' := one_del o e s
  have h0 : ∃ r ∈ l, r.s = s := by obtain ⟨r, hr, _, h⟩ := hasR_iff.1 hr; exact ⟨r, hr, h⟩
  have h1 : ¬ ∃ r ∈ delR l e s, r.s = s := fun g => by have := ep_pos.2 g; omega
  have hpm := ho.symm.texts_new h0 h1
  have hl := hpm.length_eq
  rw [List.length_cons] at hl
  refine ⟨fun y => ?_, hl.symm, ?_, (sizeT_perm hpm).trans (sizeT_cons _ _)⟩
  · unfold setF
    by_cases hx : y = sumB s
    · subst hx
      rw [if_pos rfl]
      refine ftx_none fun r hr' h2 => h1 ⟨r, hr', ?_⟩
      exact one_is o h0 _ (mem_texts.2 ⟨r, (mem_del.1 hr').1, rfl⟩) h2
    · rw [if_neg hx]
      exact ho.ftx_ne o o' hx
  · unfold fewer
    rw [if_pos ((ftx_is o (one_is o h0)).2 h0)]
    omega
/-- how many epochs hold something then -/
theorem del_epochs (u : UqR l) (hr : hasR l e s = true) : (0 < exN (delR l e s) e → (epochsR (delR l e s)).length = (epochsR l).length) ∧ (exN (delR l e s) e = 0 → (epochsR (delR l e s)).length + 1 = (epochsR l).length) := by
  have ho := oth_del u e s
  have h0 : ∃ r ∈ l, r.e = e := by obtain ⟨r, hr, h, _⟩ := hasR_iff.1 hr; exact ⟨r, hr, h⟩
  exact ⟨fun h => ho.epochs_same ⟨fun _ => h0, fun _ => ex_pos.1 h⟩, fun h => (ho.symm.epochs_new h0 fun g => by have := ex_pos.2 g; omega).symm⟩
/-- what leaver's function holds -/
structure Lv (w : World) (bb : Nat) (e : Int) (mo : Option Nat) (c1 c2 c3 : Nat) : Prop where
  a : Rg.Own w c1 #[.map mo] 62
  b : Rg.Own w c2 #[.pointer (some ⟨bb, 0, none⟩)] 23
  c : Rg.Own w c3 #[.int .i64 e] 3
theorem Lv.off {c1 c2 c3 b : Nat} {mo : Option Nat} (h : Lv w bb e mo c1 c2 c3) (hu : Rg.Upd w b w') (h1 : c1 ≠ b) (h2 : c2 ≠ b) (h3 : c3 ≠ b) : Lv w' bb e mo c1 c2 c3 := ⟨h.a.upd hu h1, h.b.upd hu h2, h.c.upd hu h3⟩
theorem Lv.below {c1 c2 c3 : Nat} {mo : Option Nat} (h : Lv w bb e mo c1 c2 c3) (hb : Below w.heap.size w w') : Lv w' bb e mo c1 c2 c3 := ⟨h.a.below hb, h.b.below hb, h.c.below hb⟩
theorem lv1 {c1 c2 c3 : Nat} {mo : Option Nat} (h : Lv w bb e mo c1 c2 c3) : w.cell? ⟨c1, 0, none⟩ = some (.map mo) := own_at h.a rfl
theorem lv2 {c1 c2 c3 : Nat} {mo : Option Nat} (h : Lv w bb e mo c1 c2 c3) : w.cell? ⟨c2, 0, none⟩ = some (.pointer (some ⟨bb, 0, none⟩)) := own_at h.b rfl
theorem lv3 {c1 c2 c3 : Nat} {mo : Option Nat} (h : Lv w bb e mo c1 c2 c3) : w.cell? ⟨c3, 0, none⟩ = some (.int .i64 e) := own_at h.c rfl
end
end Bd
end Go.Proofs.YtlembfhdljmcoaaDoor
