/-
  Layer 12: the contract of hold: a text is laid, and held by an epoch once more.
-/
import Derived.Test.YtlembfhdljmcoaaDoorMb10
import Derived.WalkSpells
set_option linter.unusedSimpArgs false
set_option linter.unusedVariables false
namespace Go.Proofs.YtlembfhdljmcoaaDoor
set_option maxRecDepth 20000
open Go.RowKit Go.Maps

namespace Bd
open Rf Sm
theorem upd_trans {w w' w'' : World} {b : Nat} (h : Rg.Upd w b w') (g : Rg.Upd w' b w'') : Rg.Upd w b w'' := ⟨g.os.trans h.os, g.tape.trans h.tape, g.output.trans h.output, g.size.trans h.size, fun k hk => (g.block k hk).trans (h.block k hk)⟩
theorem setF_at {κ : Type} [DecidableEq κ] (f : κ → Option Value) (x : κ) (V : Option Value) : setF f x V x = V := by simp [setF]
theorem ks_set {bb : Nat} {tm hm : Option Nat} {M : Int → Option Nat} {e : Int} {m k : Nat} (h : KS bb tm hm (fun e' => if e' = e then some m else M e') k) : KS bb tm hm M k ∨ k = m := by
  rcases h with h | h | h | ⟨e', h⟩
  · exact .inl (.inl h)
  · exact .inl (.inr (.inl h))
  · exact .inl (.inr (.inr (.inl h)))
  · have h : (if e' = e then some m else M e') = some k := h
    split at h
    · injection h with h; exact .inr h.symm
    · exact .inl (.inr (.inr (.inr ⟨e', h⟩)))
def HoldR (M M1 : Int → Option Nat) (e : Int) (Nh Nh1 : Nat) : Prop := Nh1 = more (hF M) e Nh ∧ ∀ e', e' ≠ e → M1 e' = M e'
def HoldP (bb : Nat) (tm hm : Option Nat) (M : Int → Option Nat) (ft : List UInt8 → Option Value) (Nt : Nat) (fi : Int → List UInt8 → Option Value) (Ni : Int → Nat) (Nh : Nat) (n : Int) (tw : Option (ByteArray × ByteArray)) (e : Int) (x : List UInt8) (s : ByteArray) (m : Nat) (v : Int) (w : World) (en : Ending) (w' : World) : Prop :=
  en = .returned (.tuple #[]) ∧ ∃ tm' hm' M' Nh', Sg bb tm' hm' M' (setF ft x (some (bodyV s m))) (more ft x Nt) (fun e' => if e' = e then setF (fi e) x (some (.int .i64 (v + 1))) else fi e') (fun e' => if e' = e then more (fi e) x (Ni e) else Ni e') Nh' n tw w' ∧
    Nh' = more (hF M) e Nh ∧ (∀ e', e' ≠ e → M' e' = M e') ∧ M' e ≠ none ∧ FrK (KS bb tm hm M) (KS bb tm' hm' M') w w'
section
variable {bb : Nat} {tm hm : Option Nat} {M : Int → Option Nat} {ft : List UInt8 → Option Value} {Nt : Nat} {fi : Int → List UInt8 → Option Value} {Ni : Int → Nat} {Nh : Nat} {n : Int} {tw : Option (ByteArray × ByteArray)} {w : World} {e : Int} {x : List UInt8} {v : Int}
set_option maxHeartbeats 8000000 in
theorem hold_c (s : ByteArray) (m : Nat) (t h mm : Nat) (g : Sg bb (some t) (some h) M ft Nt fi Ni Nh n tw w) (hM : M e = some mm) (he : W64 e) (hx : L32 x) (hNt : Nt < maxLen) (hNi : Ni e < maxLen) (hNh : Nh < maxLen) (hv : (fi e x).getD (.int .i64 0) = .int .i64 v) (hv0 : 0 ≤ v) (hv1 : v ≤ 1000000) :
    Calls Tryd.prog 37 #[.pointer (some ⟨bb, 0, none⟩), .int .i64 e, .agg (kc x), .agg (bodyA s m)] w (HoldP bb (some t) (some h) M ft Nt fi Ni Nh n tw e x s m v w) := by
  have HS := Lib.hid g
  have HX := Lib.hid hx
  have HE := Lib.hid he
  have HV := Lib.hid hv
  have HNt := Lib.hid hNt
  have HNi := Lib.hid hNi
  have HNh := Lib.hid hNh
  have HV1 : Hid (IntKind.i64.wrap (v + 1) = v + 1) := Lib.hid (by simp only [IntKind.wrap_i64, wrap64]; omega)
  have HV2 : Hid (wrap64 (v + 1) = v + 1) := Lib.hid (by unfold wrap64; omega)
  obtain ⟨k, hk⟩ : ∃ k, kc x = k := ⟨_, rfl⟩
  have HKx := Lib.hid hk
  rw [hk]
  have hqT := fun (w : World) r => run_eql_map_nil (P := Tryd.prog) w 53 _ _ r Tryd.underlying53
  have hqI := fun (w : World) r => run_eql_map_nil (P := Tryd.prog) w 62 _ _ r Tryd.underlying62
  have HM1 := Lib.hid hM
  clear hM hk hx he hv hNt hNi hNh g hv0 hv1
  obtain ⟨w2, hw2⟩ : ∃ w2, w2 = ((w.alloc (.cells k 43)).alloc (.cells (bodyA s m) 68)) := ⟨_, rfl⟩
  have hb2 : Below w.heap.size w w2 := by rw [hw2]; exact al2 _ _ _
  have HB2 := Lib.hid hb2
  have HS2 := Lib.hid (HS.out.below hb2)
  have HO0 : Hid (Rg.Own w2 w.heap.size k 43) := Lib.hid (by rw [hw2]; exact (Rg.Own.new _ _ _).below (al1 _ _))
  have HO1 : Hid (Rg.Own w2 (w.heap.size + 1) (bodyA s m) 68) := Lib.hid (by
    have := Rg.Own.new (w.alloc (.cells k 43)) (bodyA s m) 68
    rw [hw2]
    simpa using this)
  have q0 := ob0 HS2.out.own
  have q1 := ob1 HS2.out.own
  rw [hw2] at q0 q1
  have HW2 := Lib.hid hw2
  clear hb2 hw2
  go_enter Tryd.func37, Tryd.ntmps37
  go_wp2_with (first
    | (at_lookup; rw [← HW2.out]; refine Rg.run rfl _ _ (op_lookH' HS2.out.hd HE.out HM1.out ⟨_, _, rfl, rfl, rfl⟩) ?_))
  obtain ⟨g0, hg0⟩ : ∃ g, w.heap.size = g := ⟨_, rfl⟩
  obtain ⟨g1, hg1⟩ : ∃ g, w.heap.size + 1 = g := ⟨_, rfl⟩
  obtain ⟨wq, hwq⟩ : ∃ wq, wq = w2 := ⟨_, rfl⟩
  have HGq := HS2
  have HNK : Hid (¬ KS bb (some t) (some h) M g0 ∧ ¬ KS bb (some t) (some h) M g1) := Lib.hid (by
    have h1 := HS.out.lt
    exact ⟨fun g => by have := h1 _ g; omega, fun g => by have := h1 _ g; omega⟩)
  have HFr := Lib.hid ((FrK.start (KS bb (some t) (some h) M) w).more HB2.out)
  have HRest : Hid (HoldR M M e Nh Nh) := Lib.hid ⟨by unfold more hF; rw [HM1.out]; rfl, fun _ _ => rfl⟩
  rw [← hwq] at HGq HO0 HO1 HFr ⊢
  rw [hg0] at HO0
  rw [hg1] at HO1
  rw [hg1, hg0]
  clear hwq q0 q1 HS2 HW2 HB2 hg0 hg1 HS
  refine wp_region_noPanic ?_
  refine wp_region_held_drew (S := fun wz => Rg.Own wz bb (objA (some t) (some h) n tw) 56 ∧ Rg.Own wz g0 k 43 ∧ Rg.Own wz g1 (bodyA s m) 68) (by kernel_rfl) (⟨HGq.out.own, HO0.out, HO1.out⟩) (fun hHeld => ?_)
  refine Rg.takeL (i := 0) (v := ?_) rfl (by kernel_rfl) (by kernel_rfl) (by kernel_rfl) (fun _ _ _ h => h) (Or.inl ⟨by rfl, ?_⟩) (by assumption) ?_
  rotate_left
  · (intro wz hSw; (try dsimp only at hSw); go_simp <;> with_reducible rfl)
  try simp only [Act.put, List.setIfInBounds_toArray, List.set_cons_zero, List.set_cons_succ]
  refine Rg.takeL (i := 1) (v := ?_) rfl (by kernel_rfl) (by kernel_rfl) (by kernel_rfl) (fun _ _ _ h => h) (Or.inl ⟨by rfl, ?_⟩) (by assumption) ?_
  rotate_left
  · (intro wz hSw; (try dsimp only at hSw); go_simp <;> with_reducible rfl)
  try simp only [Act.put, List.setIfInBounds_toArray, List.set_cons_zero, List.set_cons_succ]
  refine Rg.takeL (i := 2) (v := ?_) rfl (by kernel_rfl) (by kernel_rfl) (by kernel_rfl) (fun _ _ _ h => h) (Or.inl ⟨by rfl, ?_⟩) (by assumption) ?_
  rotate_left
  · (intro wz hSw; (try dsimp only at hSw); go_simp <;> with_reducible rfl)
  try simp only [Act.put, List.setIfInBounds_toArray, List.set_cons_zero, List.set_cons_succ]
  refine Rg.takeL (i := 3) (v := ?_) rfl (by kernel_rfl) (by kernel_rfl) (by kernel_rfl) (fun _ _ _ h => h) (Or.inl ⟨by rfl, ?_⟩) (by assumption) ?_
  rotate_left
  · (intro wz hSw; (have q0 := ob0 hSw.1; go_simp <;> with_reducible rfl))
  try simp only [Act.put, List.setIfInBounds_toArray, List.set_cons_zero, List.set_cons_succ]
  refine Rg.takeL (i := 4) (v := ?_) rfl (by kernel_rfl) (by kernel_rfl) (by kernel_rfl) (fun _ _ _ h => h) (Or.inl ⟨by rfl, ?_⟩) (by assumption) ?_
  rotate_left
  · (intro wz hSw; (refine op_ldK HX.out HKx.out hSw.2.1 ?_; exact ⟨_, rfl, rfl⟩))
  try simp only [Act.put, List.setIfInBounds_toArray, List.set_cons_zero, List.set_cons_succ]
  refine Rg.takeL (i := 5) (v := ?_) rfl (by kernel_rfl) (by kernel_rfl) (by kernel_rfl) (fun _ _ _ h => h) (Or.inl ⟨by rfl, ?_⟩) (by assumption) ?_
  rotate_left
  · (intro wz hSw; (refine op_ldB hSw.2.2 ?_; exact ⟨_, rfl, rfl⟩))
  try simp only [Act.put, List.setIfInBounds_toArray, List.set_cons_zero, List.set_cons_succ]
  refine wpAnyH_ready (rs := [6]) (by kernel_rfl) (by simp) ?_
  refine Rg.readyL (i := 6) rfl (fun K hK => ?_)
  refine elimM (by rfl) (run_putT (HGq.out.tx.same (w' := wq.drew) fun _ _ => rfl) HNt.out HX.out HKx.out (.agg (bodyA s m)) ⟨_, _, _, rfl, rfl, rfl, rfl⟩) ?_
  rintro wu ⟨hm5, hu5⟩
  have HG5 := Lib.hid (HGq.out.texts rfl (upd_drew hu5) hm5)
  have HO5 := Lib.hid (HO0.out.upd (upd_drew hu5) fun e => HNK.out.1 (.inr (.inl (by rw [e]))))
  have HO6 := Lib.hid (HO1.out.upd (upd_drew hu5) fun e => HNK.out.2 (.inr (.inl (by rw [e]))))
  have HF5 := Lib.hid (HFr.out.upd (upd_drew hu5) (HFr.out.new _ (.inr (.inl rfl))))
  refine hK.out _ _ ?_ (fun hHeld => ?_)
  · exact ⟨HG5.out.own, HO5.out, HO6.out⟩
  clear hK K hm5 hu5
  try simp only [Act.put, List.setIfInBounds_toArray, List.set_cons_zero, List.set_cons_succ]
  refine wpAnyH_done (by kernel_rfl) ?_ _
  refine NoPanic.normal ?_
  clear hHeld
  have HIm : Hid (MoS wu (some mm) (fi e) (Ni e)) := Lib.hid (by have := HG5.out.inn e; rwa [HM1.out] at this)
  have HAp := Lib.hid (HG5.out.ap.m e mm HM1.out)
  go_wp2_with fail
  refine wp_region_noPanic ?_
  refine wp_region_held_drew (S := fun wz => Rg.Own wz bb (objA (some t) (some h) n tw) 56 ∧ Rg.Own wz g0 k 43 ∧ MoH wz (some h) (hF M) Nh) (by kernel_rfl) (⟨HG5.out.own, HO5.out, HG5.out.hd.same fun _ _ => rfl⟩) (fun hHeld => ?_)
  refine Rg.takeL (i := 0) (v := ?_) rfl (by kernel_rfl) (by kernel_rfl) (by kernel_rfl) (fun _ _ _ h => h) (Or.inl ⟨by rfl, ?_⟩) (by assumption) ?_
  rotate_left
  · (intro wz hSw; (try dsimp only at hSw); go_simp <;> with_reducible rfl)
  try simp only [Act.put, List.setIfInBounds_toArray, List.set_cons_zero, List.set_cons_succ]
  refine Rg.takeL (i := 1) (v := ?_) rfl (by kernel_rfl) (by kernel_rfl) (by kernel_rfl) (fun _ _ _ h => h) (Or.inl ⟨by rfl, ?_⟩) (by assumption) ?_
  rotate_left
  · (intro wz hSw; (try dsimp only at hSw); go_simp <;> with_reducible rfl)
  try simp only [Act.put, List.setIfInBounds_toArray, List.set_cons_zero, List.set_cons_succ]
  refine Rg.takeL (i := 2) (v := ?_) rfl (by kernel_rfl) (by kernel_rfl) (by kernel_rfl) (fun _ _ _ h => h) (Or.inl ⟨by rfl, ?_⟩) (by assumption) ?_
  rotate_left
  · (intro wz hSw; (try dsimp only at hSw); go_simp <;> with_reducible rfl)
  try simp only [Act.put, List.setIfInBounds_toArray, List.set_cons_zero, List.set_cons_succ]
  refine Rg.takeL (i := 3) (v := ?_) rfl (by kernel_rfl) (by kernel_rfl) (by kernel_rfl) (fun _ _ _ h => h) (Or.inl ⟨by rfl, ?_⟩) (by assumption) ?_
  rotate_left
  · (intro wz hSw; (have q0 := ob1 hSw.1; go_simp <;> with_reducible rfl))
  try simp only [Act.put, List.setIfInBounds_toArray, List.set_cons_zero, List.set_cons_succ]
  refine Rg.takeL (i := 4) (v := ?_) rfl (by kernel_rfl) (by kernel_rfl) (by kernel_rfl) (fun _ _ _ h => h) (Or.inl ⟨by rfl, ?_⟩) (by assumption) ?_
  rotate_left
  · (intro wz hSw; (try dsimp only at hSw); go_simp <;> with_reducible rfl)
  try simp only [Act.put, List.setIfInBounds_toArray, List.set_cons_zero, List.set_cons_succ]
  refine Rg.takeL (i := 5) (v := ?_) rfl (by kernel_rfl) (by kernel_rfl) (by kernel_rfl) (fun _ _ _ h => h) (Or.inl ⟨by rfl, ?_⟩) (by assumption) ?_
  rotate_left
  · (intro wz hSw; (refine op_lookH' hSw.2.2 HE.out HM1.out ?_; exact ⟨_, _, rfl, rfl, rfl⟩))
  try simp only [Act.put, List.setIfInBounds_toArray, List.set_cons_zero, List.set_cons_succ]
  refine Rg.takeL (i := 6) (v := ?_) rfl (by kernel_rfl) (by kernel_rfl) (by kernel_rfl) (fun _ _ _ h => h) (Or.inl ⟨by rfl, ?_⟩) (by assumption) ?_
  rotate_left
  · (intro wz hSw; (refine op_ldK HX.out HKx.out hSw.2.1 ?_; exact ⟨_, rfl, rfl⟩))
  try simp only [Act.put, List.setIfInBounds_toArray, List.set_cons_zero, List.set_cons_succ]
  refine wpAnyH_ready (rs := [7, 9]) (by kernel_rfl) (by simp) ?_
  refine Rg.readyC (i := 7) rfl (fun K hK => ?_) (Rg.readyL (i := 9) rfl (fun K hK => ?_))
  · refine Rg.meet (by rfl) _ _ (op_lookI' (HIm.out.same (w' := wu.drew) fun _ _ => rfl) HX.out HKx.out HV.out ?_) ?_
    · exact ⟨_, _, rfl, rfl, rfl⟩
    refine hK.out _ _ ?_ (fun hHeld => ?_)
    · exact hHeld
    clear hK K
    try simp only [Act.put, List.setIfInBounds_toArray, List.set_cons_zero, List.set_cons_succ]
    refine Rg.takeL (i := 8) (v := ?_) rfl (by kernel_rfl) (by kernel_rfl) (by kernel_rfl) (fun _ _ _ h => h) (Or.inl ⟨by rfl, ?_⟩) (by assumption) ?_
    rotate_left
    · (intro wz hSw; (have q0 := HV1.out; have q9 := HV2.out; go_simp <;> with_reducible rfl))
    try simp only [Act.put, List.setIfInBounds_toArray, List.set_cons_zero, List.set_cons_succ]
    refine wpAnyH_ready (rs := [9]) (by kernel_rfl) (by simp) ?_
    refine Rg.readyL (i := 9) rfl (fun K hK => ?_)
    refine elimMe (by rfl) (run_entry (HIm.out.same (w' := wu.drew) fun _ _ => rfl) HNi.out HX.out HKx.out HV.out ⟨_, _, rfl, rfl, rfl⟩) ?_
    rintro we st ⟨hm6, hu6, hp6⟩
    have HP6 := Lib.hid hp6
    have HU6 := Lib.hid (upd_drew hu6)
    have HM6 := Lib.hid hm6
    refine hK.out _ _ ?_ (fun hHeld => ?_)
    · exact ⟨HG5.out.own.upd HU6.out (Ne.symm HAp.out.1), HO5.out.upd HU6.out (fun e => HNK.out.1 (.inr (.inr (.inr ⟨_, by rw [HM1.out, e]⟩)))), HG5.out.hd.same (fun b g => HU6.out.block b (fun g2 => HAp.out.2.2 (by rw [g, g2])))⟩
    clear hK K hm6 hu6 hp6
    try simp only [Act.put, List.setIfInBounds_toArray, List.set_cons_zero, List.set_cons_succ]
    refine Rg.takeL (i := 10) (v := ?_) rfl (by kernel_rfl) (by kernel_rfl) (by kernel_rfl) (fun _ _ _ h => h) (Or.inl ⟨by rfl, ?_⟩) (by assumption) ?_
    rotate_left
    · (intro wz hSw; (try dsimp only at hSw); go_simp <;> with_reducible rfl)
    try simp only [Act.put, List.setIfInBounds_toArray, List.set_cons_zero, List.set_cons_succ]
    refine wpAnyH_ready (rs := [11]) (by kernel_rfl) (by simp) ?_
    refine Rg.readyL (i := 11) rfl (fun K hK => ?_)
    refine elimM (by rfl) (run_estore HP6.out rfl (.int .i64 (v + 1)) ⟨_, _, _, rfl, rfl, rfl, rfl⟩) ?_
    rintro w9 ⟨hm7, hu7⟩
    have HU7 : Hid (Rg.Upd wu mm w9) := Lib.hid (upd_trans HU6.out hu7)
    have HM7 := Lib.hid hm7
    refine hK.out _ _ ?_ (fun hHeld => ?_)
    · exact ⟨HG5.out.own.upd HU7.out (Ne.symm HAp.out.1), HO5.out.upd HU7.out (fun e => HNK.out.1 (.inr (.inr (.inr ⟨_, by rw [HM1.out, e]⟩)))), HG5.out.hd.same (fun b g => HU7.out.block b (fun g2 => HAp.out.2.2 (by rw [g, g2])))⟩
    clear hK K hm7 hu7
    try simp only [Act.put, List.setIfInBounds_toArray, List.set_cons_zero, List.set_cons_succ]
    refine wpAnyH_done (by kernel_rfl) ?_ _
    refine NoPanic.normal ?_
    clear hHeld
    have HRes : Hid (HoldP bb (some t) (some h) M ft Nt fi Ni Nh n tw e x s m v w (.returned (.tuple #[])) w9) := Lib.hid
      ⟨rfl, some t, some h, M, Nh, HG5.out.sums HM1.out HU7.out (by rw [HM1.out]; exact HM7.out), HRest.out.1, HRest.out.2, by rw [HM1.out]; exact fun g => (by cases g), HF5.out.upd HU7.out (HF5.out.new _ (.inr (.inr (.inr ⟨e, HM1.out⟩))))⟩
    clear HU7 HM7 HU6 HP6 HM6
    go_wp2
    go_end0
    exact HRes.out
  · refine elimMe (by rfl) (run_entry (HIm.out.same (w' := wu.drew) fun _ _ => rfl) HNi.out HX.out HKx.out HV.out ⟨_, _, rfl, rfl, rfl⟩) ?_
    rintro we st ⟨hm6, hu6, hp6⟩
    have HP6 := Lib.hid hp6
    have HU6 := Lib.hid (upd_drew hu6)
    have HM6 := Lib.hid hm6
    refine hK.out _ _ ?_ (fun hHeld => ?_)
    · exact ⟨HG5.out.own.upd HU6.out (Ne.symm HAp.out.1), HO5.out.upd HU6.out (fun e => HNK.out.1 (.inr (.inr (.inr ⟨_, by rw [HM1.out, e]⟩)))), HG5.out.hd.same (fun b g => HU6.out.block b (fun g2 => HAp.out.2.2 (by rw [g, g2])))⟩
    clear hK K hm6 hu6 hp6
    try simp only [Act.put, List.setIfInBounds_toArray, List.set_cons_zero, List.set_cons_succ]
    refine Rg.takeL (i := 10) (v := ?_) rfl (by kernel_rfl) (by kernel_rfl) (by kernel_rfl) (fun _ _ _ h => h) (Or.inl ⟨by rfl, ?_⟩) (by assumption) ?_
    rotate_left
    · (intro wz hSw; (try dsimp only at hSw); go_simp <;> with_reducible rfl)
    try simp only [Act.put, List.setIfInBounds_toArray, List.set_cons_zero, List.set_cons_succ]
    refine wpAnyH_ready (rs := [7]) (by kernel_rfl) (by simp) ?_
    refine Rg.readyL (i := 7) rfl (fun K hK => ?_)
    refine Rg.meet (by rfl) _ _ (op_lookI' HM6.out HX.out HKx.out (by first | (rw [setF_at]; done) | (rw [setF_at]; rfl)) ?_) ?_
    · exact ⟨_, _, rfl, rfl, rfl⟩
    refine hK.out _ _ ?_ (fun hHeld => ?_)
    · exact hHeld
    clear hK K
    try simp only [Act.put, List.setIfInBounds_toArray, List.set_cons_zero, List.set_cons_succ]
    refine Rg.takeL (i := 8) (v := ?_) rfl (by kernel_rfl) (by kernel_rfl) (by kernel_rfl) (fun _ _ _ h => h) (Or.inl ⟨by rfl, ?_⟩) (by assumption) ?_
    rotate_left
    · (intro wz hSw; (have q0 := HV1.out; have q9 := HV2.out; go_simp <;> with_reducible rfl))
    try simp only [Act.put, List.setIfInBounds_toArray, List.set_cons_zero, List.set_cons_succ]
    refine wpAnyH_ready (rs := [11]) (by kernel_rfl) (by simp) ?_
    refine Rg.readyL (i := 11) rfl (fun K hK => ?_)
    refine elimM (by rfl) (run_estore HP6.out rfl (.int .i64 (v + 1)) ⟨_, _, _, rfl, rfl, rfl, rfl⟩) ?_
    rintro w9 ⟨hm7, hu7⟩
    have HU7 : Hid (Rg.Upd wu mm w9) := Lib.hid (upd_trans HU6.out hu7)
    have HM7 := Lib.hid hm7
    refine hK.out _ _ ?_ (fun hHeld => ?_)
    · exact ⟨HG5.out.own.upd HU7.out (Ne.symm HAp.out.1), HO5.out.upd HU7.out (fun e => HNK.out.1 (.inr (.inr (.inr ⟨_, by rw [HM1.out, e]⟩)))), HG5.out.hd.same (fun b g => HU7.out.block b (fun g2 => HAp.out.2.2 (by rw [g, g2])))⟩
    clear hK K hm7 hu7
    try simp only [Act.put, List.setIfInBounds_toArray, List.set_cons_zero, List.set_cons_succ]
    refine wpAnyH_done (by kernel_rfl) ?_ _
    refine NoPanic.normal ?_
    clear hHeld
    have HRes : Hid (HoldP bb (some t) (some h) M ft Nt fi Ni Nh n tw e x s m v w (.returned (.tuple #[])) w9) := Lib.hid
      ⟨rfl, some t, some h, M, Nh, HG5.out.sums HM1.out HU7.out (by rw [HM1.out]; exact HM7.out), HRest.out.1, HRest.out.2, by rw [HM1.out]; exact fun g => (by cases g), HF5.out.upd HU7.out (HF5.out.new _ (.inr (.inr (.inr ⟨e, HM1.out⟩))))⟩
    clear HU7 HM7 HU6 HP6 HM6
    go_wp2
    go_end0
    exact HRes.out
set_option maxHeartbeats 8000000 in
theorem hold_b (s : ByteArray) (m : Nat) (t h : Nat) (g : Sg bb (some t) (some h) M ft Nt fi Ni Nh n tw w) (hM : M e = none) (he : W64 e) (hx : L32 x) (hNt : Nt < maxLen) (hNi : Ni e < maxLen) (hNh : Nh < maxLen) (hv : (fi e x).getD (.int .i64 0) = .int .i64 v) (hv0 : 0 ≤ v) (hv1 : v ≤ 1000000) :
    Calls Tryd.prog 37 #[.pointer (some ⟨bb, 0, none⟩), .int .i64 e, .agg (kc x), .agg (bodyA s m)] w (HoldP bb (some t) (some h) M ft Nt fi Ni Nh n tw e x s m v w) := by
  have HS := Lib.hid g
  have HX := Lib.hid hx
  have HE := Lib.hid he
  have HV := Lib.hid hv
  have HNt := Lib.hid hNt
  have HNi := Lib.hid hNi
  have HNh := Lib.hid hNh
  have HV1 : Hid (IntKind.i64.wrap (v + 1) = v + 1) := Lib.hid (by simp only [IntKind.wrap_i64, wrap64]; omega)
  have HV2 : Hid (wrap64 (v + 1) = v + 1) := Lib.hid (by unfold wrap64; omega)
  obtain ⟨k, hk⟩ : ∃ k, kc x = k := ⟨_, rfl⟩
  have HKx := Lib.hid hk
  rw [hk]
  have hqT := fun (w : World) r => run_eql_map_nil (P := Tryd.prog) w 53 _ _ r Tryd.underlying53
  have hqI := fun (w : World) r => run_eql_map_nil (P := Tryd.prog) w 62 _ _ r Tryd.underlying62
  have HM0 := Lib.hid hM
  have hmm := @run_makeMap Tryd.prog
  clear hM hk hx he hv hNt hNi hNh g hv0 hv1
  obtain ⟨w2, hw2⟩ : ∃ w2, w2 = ((w.alloc (.cells k 43)).alloc (.cells (bodyA s m) 68)) := ⟨_, rfl⟩
  have hb2 : Below w.heap.size w w2 := by rw [hw2]; exact al2 _ _ _
  have HB2 := Lib.hid hb2
  have HS2 := Lib.hid (HS.out.below hb2)
  have HO0 : Hid (Rg.Own w2 w.heap.size k 43) := Lib.hid (by rw [hw2]; exact (Rg.Own.new _ _ _).below (al1 _ _))
  have HO1 : Hid (Rg.Own w2 (w.heap.size + 1) (bodyA s m) 68) := Lib.hid (by
    have := Rg.Own.new (w.alloc (.cells k 43)) (bodyA s m) 68
    rw [hw2]
    simpa using this)
  have q0 := ob0 HS2.out.own
  have q1 := ob1 HS2.out.own
  rw [hw2] at q0 q1
  have HW2 := Lib.hid hw2
  have q2 := ob1 HS2.out.own
  clear hb2 hw2
  have HA3 := Lib.hid (al1 w2 (.map #[] 0))
  have HM3 : Hid (MoH (w2.alloc (.map #[] 0)) (some h) (hF M) Nh) := Lib.hid (HS2.out.below HA3.out).hd
  go_enter Tryd.func37, Tryd.ntmps37
  go_wp2_with (first
    | (at_lookup; rw [← HW2.out]; refine Rg.run rfl _ _ (op_lookH' HS2.out.hd HE.out HM0.out ⟨_, _, rfl, rfl, rfl⟩) ?_)
    | (at_mapUpdate; refine elimW rfl (run_putH HM3.out HNh.out HE.out (.map (some w2.heap.size)) ⟨_, _, _, rfl, rfl, rfl, rfl⟩) ?_; rintro w4 ⟨hm4, hu4⟩; have HM4 := Lib.hid hm4; have HU4 := Lib.hid hu4; clear hm4 hu4))
  obtain ⟨g0, hg0⟩ : ∃ g, w.heap.size = g := ⟨_, rfl⟩
  obtain ⟨g1, hg1⟩ : ∃ g, w.heap.size + 1 = g := ⟨_, rfl⟩
  obtain ⟨mm, hmmm⟩ : ∃ g, w2.heap.size = g := ⟨_, rfl⟩
  have HSz : Hid (w.heap.size + 2 = w2.heap.size) := Lib.hid (by rw [HW2.out]; simp)
  have HNq : Hid (Nh = Nh) := Lib.hid rfl
  have HGq : Hid (Sg bb (some t) (some h) (fun e' => if e' = e then some mm else M e') ft Nt fi Ni (more (hF M) e Nh) n tw w4) := Lib.hid (by
    have h1 := ex_none HS2.out HM0.out
    refine (HS2.out.below HA3.out).into rfl HU4.out ?_ HM0.out (fun g => by have := HS2.out.lt _ g; omega) ?_
    · rw [hF_set, ← hmmm]
      exact HM4.out
    · rw [← hmmm]
      rw [h1.2]
      exact ⟨_, (MapB.made w2).congr h1.1⟩)
  have HNK : Hid (¬ KS bb (some t) (some h) (fun e' => if e' = e then some mm else M e') g0 ∧ ¬ KS bb (some t) (some h) (fun e' => if e' = e then some mm else M e') g1) := Lib.hid (by
    have h1 := HS.out.lt
    have h2 := HSz.out
    have h3 := fun k hk => ks_set (bb := bb) (tm := some t) (hm := some h) (M := M) (e := e) (m := mm) (k := k) hk
    exact ⟨fun g => by rcases h3 _ g with g | g; · have := h1 _ g; omega
                       · omega, fun g => by rcases h3 _ g with g | g; · have := h1 _ g; omega
                                            · omega⟩)
  have HFr : Hid (FrK (KS bb (some t) (some h) M) (KS bb (some t) (some h) (fun e' => if e' = e then some mm else M e')) w w4) := Lib.hid ((((FrK.start (KS bb (some t) (some h) M) w).more (HB2.out.trans (HA3.out.mono HB2.out.size))).upd HU4.out (.inl (.inr (.inr (.inl rfl))))).wide fun k hk => by
    rcases ks_set hk with g | g
    · exact .inl g
    · have := HB2.out.size; exact .inr (by omega))
  have HO0 := Lib.hid ((HO0.out.below HA3.out).upd HU4.out fun g => by have := HS2.out.lt h (.inr (.inr (.inl rfl))); have := HS.out.lt h (.inr (.inr (.inl rfl))); omega)
  have HO1 := Lib.hid ((HO1.out.below HA3.out).upd HU4.out fun g => by have := HS2.out.lt h (.inr (.inr (.inl rfl))); have := HS.out.lt h (.inr (.inr (.inl rfl))); omega)
  rw [hg0] at HO0
  rw [hg1] at HO1
  rw [hg1, hg0]
  obtain ⟨wq, hwq⟩ : ∃ wq, wq = w4 := ⟨_, rfl⟩
  rw [← hwq] at HGq HO0 HO1 HFr ⊢
  clear hwq q0 q1 q2 HS2 HW2 HB2 HA3 HM3 HM4 HU4 HSz hg0 hg1 hmmm HS hmm

  have HM1 : Hid ((fun e' => if e' = e then some mm else M e') e = some mm) := Lib.hid (by simp)
  have HRest : Hid (HoldR M (fun e' => if e' = e then some mm else M e') e Nh (more (hF M) e Nh)) := Lib.hid ⟨by rw [HNq.out], fun e' h => if_neg h⟩
  obtain ⟨M1, hM1⟩ : ∃ M1, M1 = fun e' => if e' = e then some mm else M e' := ⟨_, rfl⟩
  obtain ⟨Nh1, hN1⟩ : ∃ N, N = more (hF M) e Nh := ⟨_, rfl⟩
  rw [← hM1] at HGq HM1 HRest HFr HNK
  rw [← hN1] at HGq HRest
  clear hM1 hN1 HM0 HNq
  refine wp_region_noPanic ?_
  refine wp_region_held_drew (S := fun wz => Rg.Own wz bb (objA (some t) (some h) n tw) 56 ∧ Rg.Own wz g0 k 43 ∧ Rg.Own wz g1 (bodyA s m) 68) (by kernel_rfl) (⟨HGq.out.own, HO0.out, HO1.out⟩) (fun hHeld => ?_)
  refine Rg.takeL (i := 0) (v := ?_) rfl (by kernel_rfl) (by kernel_rfl) (by kernel_rfl) (fun _ _ _ h => h) (Or.inl ⟨by rfl, ?_⟩) (by assumption) ?_
  rotate_left
  · (intro wz hSw; (try dsimp only at hSw); go_simp <;> with_reducible rfl)
  try simp only [Act.put, List.setIfInBounds_toArray, List.set_cons_zero, List.set_cons_succ]
  refine Rg.takeL (i := 1) (v := ?_) rfl (by kernel_rfl) (by kernel_rfl) (by kernel_rfl) (fun _ _ _ h => h) (Or.inl ⟨by rfl, ?_⟩) (by assumption) ?_
  rotate_left
  · (intro wz hSw; (try dsimp only at hSw); go_simp <;> with_reducible rfl)
  try simp only [Act.put, List.setIfInBounds_toArray, List.set_cons_zero, List.set_cons_succ]
  refine Rg.takeL (i := 2) (v := ?_) rfl (by kernel_rfl) (by kernel_rfl) (by kernel_rfl) (fun _ _ _ h => h) (Or.inl ⟨by rfl, ?_⟩) (by assumption) ?_
  rotate_left
  · (intro wz hSw; (try dsimp only at hSw); go_simp <;> with_reducible rfl)
  try simp only [Act.put, List.setIfInBounds_toArray, List.set_cons_zero, List.set_cons_succ]
  refine Rg.takeL (i := 3) (v := ?_) rfl (by kernel_rfl) (by kernel_rfl) (by kernel_rfl) (fun _ _ _ h => h) (Or.inl ⟨by rfl, ?_⟩) (by assumption) ?_
  rotate_left
  · (intro wz hSw; (have q0 := ob0 hSw.1; go_simp <;> with_reducible rfl))
  try simp only [Act.put, List.setIfInBounds_toArray, List.set_cons_zero, List.set_cons_succ]
  refine Rg.takeL (i := 4) (v := ?_) rfl (by kernel_rfl) (by kernel_rfl) (by kernel_rfl) (fun _ _ _ h => h) (Or.inl ⟨by rfl, ?_⟩) (by assumption) ?_
  rotate_left
  · (intro wz hSw; (refine op_ldK HX.out HKx.out hSw.2.1 ?_; exact ⟨_, rfl, rfl⟩))
  try simp only [Act.put, List.setIfInBounds_toArray, List.set_cons_zero, List.set_cons_succ]
  refine Rg.takeL (i := 5) (v := ?_) rfl (by kernel_rfl) (by kernel_rfl) (by kernel_rfl) (fun _ _ _ h => h) (Or.inl ⟨by rfl, ?_⟩) (by assumption) ?_
  rotate_left
  · (intro wz hSw; (refine op_ldB hSw.2.2 ?_; exact ⟨_, rfl, rfl⟩))
  try simp only [Act.put, List.setIfInBounds_toArray, List.set_cons_zero, List.set_cons_succ]
  refine wpAnyH_ready (rs := [6]) (by kernel_rfl) (by simp) ?_
  refine Rg.readyL (i := 6) rfl (fun K hK => ?_)
  refine elimM (by rfl) (run_putT (HGq.out.tx.same (w' := wq.drew) fun _ _ => rfl) HNt.out HX.out HKx.out (.agg (bodyA s m)) ⟨_, _, _, rfl, rfl, rfl, rfl⟩) ?_
  rintro wu ⟨hm5, hu5⟩
  have HG5 := Lib.hid (HGq.out.texts rfl (upd_drew hu5) hm5)
  have HO5 := Lib.hid (HO0.out.upd (upd_drew hu5) fun e => HNK.out.1 (.inr (.inl (by rw [e]))))
  have HO6 := Lib.hid (HO1.out.upd (upd_drew hu5) fun e => HNK.out.2 (.inr (.inl (by rw [e]))))
  have HF5 := Lib.hid (HFr.out.upd (upd_drew hu5) (HFr.out.new _ (.inr (.inl rfl))))
  refine hK.out _ _ ?_ (fun hHeld => ?_)
  · exact ⟨HG5.out.own, HO5.out, HO6.out⟩
  clear hK K hm5 hu5
  try simp only [Act.put, List.setIfInBounds_toArray, List.set_cons_zero, List.set_cons_succ]
  refine wpAnyH_done (by kernel_rfl) ?_ _
  refine NoPanic.normal ?_
  clear hHeld
  have HIm : Hid (MoS wu (some mm) (fi e) (Ni e)) := Lib.hid (by have := HG5.out.inn e; rwa [HM1.out] at this)
  have HAp := Lib.hid (HG5.out.ap.m e mm HM1.out)
  go_wp2_with fail
  refine wp_region_noPanic ?_
  refine wp_region_held_drew (S := fun wz => Rg.Own wz bb (objA (some t) (some h) n tw) 56 ∧ Rg.Own wz g0 k 43 ∧ MoH wz (some h) (hF M1) Nh1) (by kernel_rfl) (⟨HG5.out.own, HO5.out, HG5.out.hd.same fun _ _ => rfl⟩) (fun hHeld => ?_)
  refine Rg.takeL (i := 0) (v := ?_) rfl (by kernel_rfl) (by kernel_rfl) (by kernel_rfl) (fun _ _ _ h => h) (Or.inl ⟨by rfl, ?_⟩) (by assumption) ?_
  rotate_left
  · (intro wz hSw; (try dsimp only at hSw); go_simp <;> with_reducible rfl)
  try simp only [Act.put, List.setIfInBounds_toArray, List.set_cons_zero, List.set_cons_succ]
  refine Rg.takeL (i := 1) (v := ?_) rfl (by kernel_rfl) (by kernel_rfl) (by kernel_rfl) (fun _ _ _ h => h) (Or.inl ⟨by rfl, ?_⟩) (by assumption) ?_
  rotate_left
  · (intro wz hSw; (try dsimp only at hSw); go_simp <;> with_reducible rfl)
  try simp only [Act.put, List.setIfInBounds_toArray, List.set_cons_zero, List.set_cons_succ]
  refine Rg.takeL (i := 2) (v := ?_) rfl (by kernel_rfl) (by kernel_rfl) (by kernel_rfl) (fun _ _ _ h => h) (Or.inl ⟨by rfl, ?_⟩) (by assumption) ?_
  rotate_left
  · (intro wz hSw; (try dsimp only at hSw); go_simp <;> with_reducible rfl)
  try simp only [Act.put, List.setIfInBounds_toArray, List.set_cons_zero, List.set_cons_succ]
  refine Rg.takeL (i := 3) (v := ?_) rfl (by kernel_rfl) (by kernel_rfl) (by kernel_rfl) (fun _ _ _ h => h) (Or.inl ⟨by rfl, ?_⟩) (by assumption) ?_
  rotate_left
  · (intro wz hSw; (have q0 := ob1 hSw.1; go_simp <;> with_reducible rfl))
  try simp only [Act.put, List.setIfInBounds_toArray, List.set_cons_zero, List.set_cons_succ]
  refine Rg.takeL (i := 4) (v := ?_) rfl (by kernel_rfl) (by kernel_rfl) (by kernel_rfl) (fun _ _ _ h => h) (Or.inl ⟨by rfl, ?_⟩) (by assumption) ?_
  rotate_left
  · (intro wz hSw; (try dsimp only at hSw); go_simp <;> with_reducible rfl)
  try simp only [Act.put, List.setIfInBounds_toArray, List.set_cons_zero, List.set_cons_succ]
  refine Rg.takeL (i := 5) (v := ?_) rfl (by kernel_rfl) (by kernel_rfl) (by kernel_rfl) (fun _ _ _ h => h) (Or.inl ⟨by rfl, ?_⟩) (by assumption) ?_
  rotate_left
  · (intro wz hSw; (refine op_lookH' hSw.2.2 HE.out HM1.out ?_; exact ⟨_, _, rfl, rfl, rfl⟩))
  try simp only [Act.put, List.setIfInBounds_toArray, List.set_cons_zero, List.set_cons_succ]
  refine Rg.takeL (i := 6) (v := ?_) rfl (by kernel_rfl) (by kernel_rfl) (by kernel_rfl) (fun _ _ _ h => h) (Or.inl ⟨by rfl, ?_⟩) (by assumption) ?_
  rotate_left
  · (intro wz hSw; (refine op_ldK HX.out HKx.out hSw.2.1 ?_; exact ⟨_, rfl, rfl⟩))
  try simp only [Act.put, List.setIfInBounds_toArray, List.set_cons_zero, List.set_cons_succ]
  refine wpAnyH_ready (rs := [7, 9]) (by kernel_rfl) (by simp) ?_
  refine Rg.readyC (i := 7) rfl (fun K hK => ?_) (Rg.readyL (i := 9) rfl (fun K hK => ?_))
  · refine Rg.meet (by rfl) _ _ (op_lookI' (HIm.out.same (w' := wu.drew) fun _ _ => rfl) HX.out HKx.out HV.out ?_) ?_
    · exact ⟨_, _, rfl, rfl, rfl⟩
    refine hK.out _ _ ?_ (fun hHeld => ?_)
    · exact hHeld
    clear hK K
    try simp only [Act.put, List.setIfInBounds_toArray, List.set_cons_zero, List.set_cons_succ]
    refine Rg.takeL (i := 8) (v := ?_) rfl (by kernel_rfl) (by kernel_rfl) (by kernel_rfl) (fun _ _ _ h => h) (Or.inl ⟨by rfl, ?_⟩) (by assumption) ?_
    rotate_left
    · (intro wz hSw; (have q0 := HV1.out; have q9 := HV2.out; go_simp <;> with_reducible rfl))
    try simp only [Act.put, List.setIfInBounds_toArray, List.set_cons_zero, List.set_cons_succ]
    refine wpAnyH_ready (rs := [9]) (by kernel_rfl) (by simp) ?_
    refine Rg.readyL (i := 9) rfl (fun K hK => ?_)
    refine elimMe (by rfl) (run_entry (HIm.out.same (w' := wu.drew) fun _ _ => rfl) HNi.out HX.out HKx.out HV.out ⟨_, _, rfl, rfl, rfl⟩) ?_
    rintro we st ⟨hm6, hu6, hp6⟩
    have HP6 := Lib.hid hp6
    have HU6 := Lib.hid (upd_drew hu6)
    have HM6 := Lib.hid hm6
    refine hK.out _ _ ?_ (fun hHeld => ?_)
    · exact ⟨HG5.out.own.upd HU6.out (Ne.symm HAp.out.1), HO5.out.upd HU6.out (fun e => HNK.out.1 (.inr (.inr (.inr ⟨_, by rw [HM1.out, e]⟩)))), HG5.out.hd.same (fun b g => HU6.out.block b (fun g2 => HAp.out.2.2 (by rw [g, g2])))⟩
    clear hK K hm6 hu6 hp6
    try simp only [Act.put, List.setIfInBounds_toArray, List.set_cons_zero, List.set_cons_succ]
    refine Rg.takeL (i := 10) (v := ?_) rfl (by kernel_rfl) (by kernel_rfl) (by kernel_rfl) (fun _ _ _ h => h) (Or.inl ⟨by rfl, ?_⟩) (by assumption) ?_
    rotate_left
    · (intro wz hSw; (try dsimp only at hSw); go_simp <;> with_reducible rfl)
    try simp only [Act.put, List.setIfInBounds_toArray, List.set_cons_zero, List.set_cons_succ]
    refine wpAnyH_ready (rs := [11]) (by kernel_rfl) (by simp) ?_
    refine Rg.readyL (i := 11) rfl (fun K hK => ?_)
    refine elimM (by rfl) (run_estore HP6.out rfl (.int .i64 (v + 1)) ⟨_, _, _, rfl, rfl, rfl, rfl⟩) ?_
    rintro w9 ⟨hm7, hu7⟩
    have HU7 : Hid (Rg.Upd wu mm w9) := Lib.hid (upd_trans HU6.out hu7)
    have HM7 := Lib.hid hm7
    refine hK.out _ _ ?_ (fun hHeld => ?_)
    · exact ⟨HG5.out.own.upd HU7.out (Ne.symm HAp.out.1), HO5.out.upd HU7.out (fun e => HNK.out.1 (.inr (.inr (.inr ⟨_, by rw [HM1.out, e]⟩)))), HG5.out.hd.same (fun b g => HU7.out.block b (fun g2 => HAp.out.2.2 (by rw [g, g2])))⟩
    clear hK K hm7 hu7
    try simp only [Act.put, List.setIfInBounds_toArray, List.set_cons_zero, List.set_cons_succ]
    refine wpAnyH_done (by kernel_rfl) ?_ _
    refine NoPanic.normal ?_
    clear hHeld
    have HRes : Hid (HoldP bb (some t) (some h) M ft Nt fi Ni Nh n tw e x s m v w (.returned (.tuple #[])) w9) := Lib.hid
      ⟨rfl, some t, some h, M1, Nh1, HG5.out.sums HM1.out HU7.out (by rw [HM1.out]; exact HM7.out), HRest.out.1, HRest.out.2, by rw [HM1.out]; exact fun g => (by cases g), HF5.out.upd HU7.out (HF5.out.new _ (.inr (.inr (.inr ⟨e, HM1.out⟩))))⟩
    clear HU7 HM7 HU6 HP6 HM6
    go_wp2
    go_end0
    exact HRes.out
  · refine elimMe (by rfl) (run_entry (HIm.out.same (w' := wu.drew) fun _ _ => rfl) HNi.out HX.out HKx.out HV.out ⟨_, _, rfl, rfl, rfl⟩) ?_
    rintro we st ⟨hm6, hu6, hp6⟩
    have HP6 := Lib.hid hp6
    have HU6 := Lib.hid (upd_drew hu6)
    have HM6 := Lib.hid hm6
    refine hK.out _ _ ?_ (fun hHeld => ?_)
    · exact ⟨HG5.out.own.upd HU6.out (Ne.symm HAp.out.1), HO5.out.upd HU6.out (fun e => HNK.out.1 (.inr (.inr (.inr ⟨_, by rw [HM1.out, e]⟩)))), HG5.out.hd.same (fun b g => HU6.out.block b (fun g2 => HAp.out.2.2 (by rw [g, g2])))⟩
    clear hK K hm6 hu6 hp6
    try simp only [Act.put, List.setIfInBounds_toArray, List.set_cons_zero, List.set_cons_succ]
    refine Rg.takeL (i := 10) (v := ?_) rfl (by kernel_rfl) (by kernel_rfl) (by kernel_rfl) (fun _ _ _ h => h) (Or.inl ⟨by rfl, ?_⟩) (by assumption) ?_
    rotate_left
    · (intro wz hSw; (try dsimp only at hSw); go_simp <;> with_reducible rfl)
    try simp only [Act.put, List.setIfInBounds_toArray, List.set_cons_zero, List.set_cons_succ]
    refine wpAnyH_ready (rs := [7]) (by kernel_rfl) (by simp) ?_
    refine Rg.readyL (i := 7) rfl (fun K hK => ?_)
    refine Rg.meet (by rfl) _ _ (op_lookI' HM6.out HX.out HKx.out (by first | (rw [setF_at]; done) | (rw [setF_at]; rfl)) ?_) ?_
    · exact ⟨_, _, rfl, rfl, rfl⟩
    refine hK.out _ _ ?_ (fun hHeld => ?_)
    · exact hHeld
    clear hK K
    try simp only [Act.put, List.setIfInBounds_toArray, List.set_cons_zero, List.set_cons_succ]
    refine Rg.takeL (i := 8) (v := ?_) rfl (by kernel_rfl) (by kernel_rfl) (by kernel_rfl) (fun _ _ _ h => h) (Or.inl ⟨by rfl, ?_⟩) (by assumption) ?_
    rotate_left
    · (intro wz hSw; (have q0 := HV1.out; have q9 := HV2.out; go_simp <;> with_reducible rfl))
    try simp only [Act.put, List.setIfInBounds_toArray, List.set_cons_zero, List.set_cons_succ]
    refine wpAnyH_ready (rs := [11]) (by kernel_rfl) (by simp) ?_
    refine Rg.readyL (i := 11) rfl (fun K hK => ?_)
    refine elimM (by rfl) (run_estore HP6.out rfl (.int .i64 (v + 1)) ⟨_, _, _, rfl, rfl, rfl, rfl⟩) ?_
    rintro w9 ⟨hm7, hu7⟩
    have HU7 : Hid (Rg.Upd wu mm w9) := Lib.hid (upd_trans HU6.out hu7)
    have HM7 := Lib.hid hm7
    refine hK.out _ _ ?_ (fun hHeld => ?_)
    · exact ⟨HG5.out.own.upd HU7.out (Ne.symm HAp.out.1), HO5.out.upd HU7.out (fun e => HNK.out.1 (.inr (.inr (.inr ⟨_, by rw [HM1.out, e]⟩)))), HG5.out.hd.same (fun b g => HU7.out.block b (fun g2 => HAp.out.2.2 (by rw [g, g2])))⟩
    clear hK K hm7 hu7
    try simp only [Act.put, List.setIfInBounds_toArray, List.set_cons_zero, List.set_cons_succ]
    refine wpAnyH_done (by kernel_rfl) ?_ _
    refine NoPanic.normal ?_
    clear hHeld
    have HRes : Hid (HoldP bb (some t) (some h) M ft Nt fi Ni Nh n tw e x s m v w (.returned (.tuple #[])) w9) := Lib.hid
      ⟨rfl, some t, some h, M1, Nh1, HG5.out.sums HM1.out HU7.out (by rw [HM1.out]; exact HM7.out), HRest.out.1, HRest.out.2, by rw [HM1.out]; exact fun g => (by cases g), HF5.out.upd HU7.out (HF5.out.new _ (.inr (.inr (.inr ⟨e, HM1.out⟩))))⟩
    clear HU7 HM7 HU6 HP6 HM6
    go_wp2
    go_end0
    exact HRes.out
theorem sg_zero (h : Sg bb none none M ft Nt fi Ni Nh n tw w) : (∀ y, W64 y → M y = none) ∧ Nh = 0 ∧ (∀ y, L32 y → ft y = none) ∧ Nt = 0 := by
  refine ⟨fun y hy => ?_, h.hd.2, h.tx.1, h.tx.2⟩
  have h0 := h.hd.1 y hy
  unfold hF at h0
  cases h9 : M y with
  | none => rfl
  | some q => rw [h9] at h0; cases h0
theorem mo_made (w : World) (h : ∀ y, L32 y → ft y = none) : MoS (w.alloc (.map #[] 0)) (some w.heap.size) ft 0 := ⟨_, (MapB.made w).congr h⟩
theorem mh_made (w : World) (h : ∀ y, W64 y → M y = none) : MoH (w.alloc (.map #[] 0)) (some w.heap.size) (hF M) 0 := ⟨_, (MapB.made w).congr fun y hy => by unfold hF; rw [h y hy]; rfl⟩
/-- the two maps are made -/
theorem sg_born {wA w5 : World} {t h : Nat} (g : Sg bb none none M ft Nt fi Ni Nh n tw wA) (hu : Rg.Upd wA bb w5) (ho : Rg.Own w5 bb (objA (some t) (some h) n tw) 56) (ht : MoS wA (some t) ft Nt) (hh : MoH wA (some h) (hF M) 0) (hl : ∀ k, KS bb none none M k → k < t) (hth : t < h) :
    Sg bb (some t) (some h) M ft Nt fi Ni 0 n tw w5 := by
  have hb := hl bb (.inl rfl)
  refine ⟨ho, ht.same fun b e => hu.block b fun g => by injection e with e; omega, hh.same fun b e => hu.block b fun g => by injection e with e; omega, fun e => (g.inn e).same fun b q => hu.block b (g.ap.m e b q).1, ⟨fun g => (by cases g), fun g => (by cases g)⟩, ⟨fun e m hm => ?_, g.ap.i, fun g => by injection g with g; omega, fun g => by injection g with g; omega, fun t g1 g2 => by injection g1 with g1; injection g2 with g2; omega⟩⟩
  have h3 := hl m (.inr (.inr (.inr ⟨e, hm⟩)))
  exact ⟨(g.ap.m e m hm).1, fun g => by injection g with g; omega, fun g => by injection g with g; omega⟩
set_option maxHeartbeats 8000000 in
theorem hold_a (s : ByteArray) (m : Nat) (g : Sg bb none none M ft Nt fi Ni Nh n tw w) (he : W64 e) (hx : L32 x) (hNt : Nt < maxLen) (hNi : Ni e < maxLen) (hNh : Nh < maxLen) (hv : (fi e x).getD (.int .i64 0) = .int .i64 v) (hv0 : 0 ≤ v) (hv1 : v ≤ 1000000) :
    Calls Tryd.prog 37 #[.pointer (some ⟨bb, 0, none⟩), .int .i64 e, .agg (kc x), .agg (bodyA s m)] w (HoldP bb none none M ft Nt fi Ni Nh n tw e x s m v w) := by
  have HS := Lib.hid g
  have HX := Lib.hid hx
  have HE := Lib.hid he
  have HV := Lib.hid hv
  have HNt := Lib.hid hNt
  have HNi := Lib.hid hNi
  have HNh := Lib.hid hNh
  have HV1 : Hid (IntKind.i64.wrap (v + 1) = v + 1) := Lib.hid (by simp only [IntKind.wrap_i64, wrap64]; omega)
  have HV2 : Hid (wrap64 (v + 1) = v + 1) := Lib.hid (by unfold wrap64; omega)
  obtain ⟨k, hk⟩ : ∃ k, kc x = k := ⟨_, rfl⟩
  have HKx := Lib.hid hk
  rw [hk]
  have hqT := fun (w : World) r => run_eql_map_nil (P := Tryd.prog) w 53 _ _ r Tryd.underlying53
  have hqI := fun (w : World) r => run_eql_map_nil (P := Tryd.prog) w 62 _ _ r Tryd.underlying62
  have hmm := @run_makeMap Tryd.prog
  clear hk hx he hv hNt hNi hNh g hv0 hv1
  obtain ⟨w2, hw2⟩ : ∃ w2, w2 = ((w.alloc (.cells k 43)).alloc (.cells (bodyA s m) 68)) := ⟨_, rfl⟩
  have hb2 : Below w.heap.size w w2 := by rw [hw2]; exact al2 _ _ _
  have HB2 := Lib.hid hb2
  have HS2 := Lib.hid (HS.out.below hb2)
  have HO0 : Hid (Rg.Own w2 w.heap.size k 43) := Lib.hid (by rw [hw2]; exact (Rg.Own.new _ _ _).below (al1 _ _))
  have HO1 : Hid (Rg.Own w2 (w.heap.size + 1) (bodyA s m) 68) := Lib.hid (by
    have := Rg.Own.new (w.alloc (.cells k 43)) (bodyA s m) 68
    rw [hw2]
    simpa using this)
  have q0 := ob0 HS2.out.own
  rw [hw2] at q0
  have HW2 := Lib.hid hw2
  have HE0 : Hid ((∀ y, W64 y → M y = none) ∧ Nh = 0 ∧ (∀ y, L32 y → ft y = none) ∧ Nt = 0) := Lib.hid (sg_zero HS.out)
  have HM0 : Hid (M e = none) := Lib.hid (HE0.out.1 e HE.out)
  clear hb2 hw2
  obtain ⟨wA, hwA⟩ : ∃ wA, wA = (w2.alloc (.map #[] 0)).alloc (.map #[] 0) := ⟨_, rfl⟩
  have HWA := Lib.hid hwA
  have HZ2 : Hid (w2.heap.size = w.heap.size + 1 + 1) := Lib.hid (by rw [HW2.out]; simp)
  have HBA : Hid (Below w2.heap.size w2 wA) := Lib.hid (by rw [hwA]; exact al2 _ _ _)
  have HSA := Lib.hid (HS2.out.below HBA.out)
  have HTm : Hid (MoS wA (some (w.heap.size + 1 + 1)) ft Nt) := Lib.hid (by
    rw [HE0.out.2.2.2, hwA, ← HZ2.out]
    exact (mo_made w2 HE0.out.2.2.1).same fun b e => (al1 (w2.alloc (.map #[] 0)) (.map #[] 0)).block _ (by injection e with e; simp; omega))
  have HHm : Hid (MoH wA (some (w.heap.size + 1 + 1 + 1)) (hF M) 0) := Lib.hid (by
    have h1 := mh_made (w2.alloc (.map #[] 0)) HE0.out.1
    have h2 : (w2.alloc (.map #[] 0)).heap.size = w.heap.size + 1 + 1 + 1 := by rw [← HZ2.out]; simp
    rw [h2] at h1
    rw [hwA]
    exact h1)
  clear hwA
  go_enter Tryd.func37, Tryd.ntmps37
  go_wp2_with (first
    | (refine elimW (R := fun w' => Rg.Own w' bb #[.map (some (w.heap.size + 1 + 1)), .map none, .int .i64 n, .string (was tw), .string (came tw), .bool tw.isSome] 56 ∧ Rg.Upd wA bb w') rfl (by rw [← HW2.out, ← HWA.out]; exact ⟨_, run_stM HSA.out.own (by simp [objA]) (some (w.heap.size + 1 + 1)) ⟨_, _, rfl, rfl, rfl⟩, own_set HSA.out.own _, upd_set _ _ _ _⟩) ?_; rintro w4 ⟨hO4, hu4⟩; have HO4 := Lib.hid hO4; have HU4 := Lib.hid hu4; clear hO4 hu4)
    | (refine elimW (R := fun w' => Rg.Own w' bb (objA (some (w.heap.size + 1 + 1)) (some (w.heap.size + 1 + 1 + 1)) n tw) 56 ∧ Rg.Upd w4 bb w') rfl ⟨_, run_stH HO4.out (by simp) (some (w.heap.size + 1 + 1 + 1)) ⟨_, _, rfl, rfl, rfl⟩, own_set HO4.out _, upd_set _ _ _ _⟩ ?_; rintro w5 ⟨hO5, hu5⟩; have HU5 := Lib.hid (upd_trans HU4.out hu5)
       have HS5 : Hid (Sg bb (some (w.heap.size + 1 + 1)) (some (w.heap.size + 1 + 1 + 1)) M ft Nt fi Ni 0 n tw w5) := Lib.hid (sg_born HSA.out HU5.out hO5 HTm.out HHm.out (fun k hk => by have := HS2.out.lt k hk; have := HZ2.out; omega) (Nat.lt_succ_self _)); have q3 := ob1 hO5; have HB5 := Lib.hid (al1 w5 (.map #[] 0)); have HM5 : Hid (MoH (w5.alloc (.map #[] 0)) (some (w.heap.size + 1 + 1 + 1)) (hF M) 0) := Lib.hid (HS5.out.below HB5.out).hd; clear hO5 hu5)
    | (at_lookup; refine Rg.run rfl _ _ (op_lookH' HS5.out.hd HE.out HM0.out ⟨_, _, rfl, rfl, rfl⟩) ?_)
    | (at_mapUpdate; refine elimW rfl (run_putH HM5.out (by unfold maxLen; omega) HE.out (.map (some w5.heap.size)) ⟨_, _, _, rfl, rfl, rfl, rfl⟩) ?_; rintro w6 ⟨hm6, hu6⟩; have HM6 := Lib.hid hm6; have HU6 := Lib.hid hu6; clear hm6 hu6))
  obtain ⟨g0, hg0⟩ : ∃ g, w.heap.size = g := ⟨_, rfl⟩
  obtain ⟨g1, hg1⟩ : ∃ g, w.heap.size + 1 = g := ⟨_, rfl⟩
  obtain ⟨mm, hmmm⟩ : ∃ g, w5.heap.size = g := ⟨_, rfl⟩
  obtain ⟨t, ht⟩ : ∃ g, w.heap.size + 1 + 1 = g := ⟨_, rfl⟩
  obtain ⟨h, hh⟩ : ∃ g, w.heap.size + 1 + 1 + 1 = g := ⟨_, rfl⟩
  have HSz : Hid (w.heap.size + 2 = w2.heap.size ∧ w5.heap.size = w2.heap.size + 2 ∧ bb < w.heap.size) := Lib.hid ⟨by rw [HW2.out]; simp, by rw [HU5.out.size, HWA.out]; simp, HS.out.own.1⟩
  have HNq : Hid (Nh = 0) := Lib.hid HE0.out.2.1
  have HGq : Hid (Sg bb (some (w.heap.size + 1 + 1)) (some (w.heap.size + 1 + 1 + 1)) (fun e' => if e' = e then some mm else M e') ft Nt fi Ni (more (hF M) e 0) n tw w6) := Lib.hid (by
    have h1 := ex_none HS5.out HM0.out
    refine (HS5.out.below HB5.out).into rfl HU6.out ?_ HM0.out (fun g => by have := HS5.out.lt _ g; omega) ?_
    · rw [hF_set, ← hmmm]
      exact HM6.out
    · rw [← hmmm]
      rw [h1.2]
      exact ⟨_, (MapB.made w5).congr h1.1⟩)
  have HNK : Hid (¬ KS bb (some (w.heap.size + 1 + 1)) (some (w.heap.size + 1 + 1 + 1)) (fun e' => if e' = e then some mm else M e') g0 ∧ ¬ KS bb (some (w.heap.size + 1 + 1)) (some (w.heap.size + 1 + 1 + 1)) (fun e' => if e' = e then some mm else M e') g1) := Lib.hid (by
    have h1 := HS.out.lt
    have h2 := HSz.out
    have h3 : ∀ k, KS bb (some (w.heap.size + 1 + 1)) (some (w.heap.size + 1 + 1 + 1)) (fun e' => if e' = e then some mm else M e') k → k < w.heap.size ∨ w.heap.size + 2 ≤ k := fun k hk => by
      rcases ks_set hk with g | g
      · rcases g with g | g | g | g
        · exact .inl (h1 k (.inl g))
        · injection g with g; omega
        · injection g with g; omega
        · exact .inl (h1 k (.inr (.inr (.inr g))))
      · omega
    exact ⟨fun g => by have := h3 _ g; omega, fun g => by have := h3 _ g; omega⟩)
  have HFr : Hid (FrK (KS bb none none M) (KS bb (some (w.heap.size + 1 + 1)) (some (w.heap.size + 1 + 1 + 1)) (fun e' => if e' = e then some mm else M e')) w w6) := Lib.hid ((((((FrK.start (KS bb none none M) w).more (HB2.out.trans (HBA.out.mono HB2.out.size))).upd HU5.out (.inl (.inl rfl))).more HB5.out).upd HU6.out (.inr (by have := HSz.out; omega))).wide fun k hk => by
    have h2 := HSz.out
    rcases ks_set hk with g | g
    · rcases g with g | g | g | g
      · exact .inl (.inl g)
      · injection g with g; exact .inr (by omega)
      · injection g with g; exact .inr (by omega)
      · exact .inl (.inr (.inr (.inr g)))
    · exact .inr (by omega))
  have HO0 := Lib.hid ((((HO0.out.below HBA.out).upd HU5.out (by have := HSz.out; omega)).below HB5.out).upd HU6.out (by have := HSz.out; omega))
  have HO1 := Lib.hid ((((HO1.out.below HBA.out).upd HU5.out (by have := HSz.out; omega)).below HB5.out).upd HU6.out (by have := HSz.out; omega))
  have HN0 := Lib.hid HE0.out.2.1
  rw [hg0] at HO0
  rw [hg1] at HO1
  rw [hh, ht] at HGq HFr HNK
  rw [hh, ht, hg1, hg0]
  obtain ⟨wq, hwq⟩ : ∃ wq, wq = w6 := ⟨_, rfl⟩
  rw [← hwq] at HGq HO0 HO1 HFr ⊢
  clear hwq q0 q3 HS2 HW2 HB2 HBA HSA HTm HHm HS5 HB5 HM5 HM6 HU6 HU5 HU4 HO4 HSz HZ2 hg0 hg1 hmmm ht hh HS hmm HE0

  have HM1 : Hid ((fun e' => if e' = e then some mm else M e') e = some mm) := Lib.hid (by simp)
  have HRest : Hid (HoldR M (fun e' => if e' = e then some mm else M e') e Nh (more (hF M) e 0)) := Lib.hid ⟨by rw [HNq.out], fun e' h => if_neg h⟩
  obtain ⟨M1, hM1⟩ : ∃ M1, M1 = fun e' => if e' = e then some mm else M e' := ⟨_, rfl⟩
  obtain ⟨Nh1, hN1⟩ : ∃ N, N = more (hF M) e 0 := ⟨_, rfl⟩
  rw [← hM1] at HGq HM1 HRest HFr HNK
  rw [← hN1] at HGq HRest
  clear hM1 hN1 HM0 HNq
  refine wp_region_noPanic ?_
  refine wp_region_held_drew (S := fun wz => Rg.Own wz bb (objA (some t) (some h) n tw) 56 ∧ Rg.Own wz g0 k 43 ∧ Rg.Own wz g1 (bodyA s m) 68) (by kernel_rfl) (⟨HGq.out.own, HO0.out, HO1.out⟩) (fun hHeld => ?_)
  refine Rg.takeL (i := 0) (v := ?_) rfl (by kernel_rfl) (by kernel_rfl) (by kernel_rfl) (fun _ _ _ h => h) (Or.inl ⟨by rfl, ?_⟩) (by assumption) ?_
  rotate_left
  · (intro wz hSw; (try dsimp only at hSw); go_simp <;> with_reducible rfl)
  try simp only [Act.put, List.setIfInBounds_toArray, List.set_cons_zero, List.set_cons_succ]
  refine Rg.takeL (i := 1) (v := ?_) rfl (by kernel_rfl) (by kernel_rfl) (by kernel_rfl) (fun _ _ _ h => h) (Or.inl ⟨by rfl, ?_⟩) (by assumption) ?_
  rotate_left
  · (intro wz hSw; (try dsimp only at hSw); go_simp <;> with_reducible rfl)
  try simp only [Act.put, List.setIfInBounds_toArray, List.set_cons_zero, List.set_cons_succ]
  refine Rg.takeL (i := 2) (v := ?_) rfl (by kernel_rfl) (by kernel_rfl) (by kernel_rfl) (fun _ _ _ h => h) (Or.inl ⟨by rfl, ?_⟩) (by assumption) ?_
  rotate_left
  · (intro wz hSw; (try dsimp only at hSw); go_simp <;> with_reducible rfl)
  try simp only [Act.put, List.setIfInBounds_toArray, List.set_cons_zero, List.set_cons_succ]
  refine Rg.takeL (i := 3) (v := ?_) rfl (by kernel_rfl) (by kernel_rfl) (by kernel_rfl) (fun _ _ _ h => h) (Or.inl ⟨by rfl, ?_⟩) (by assumption) ?_
  rotate_left
  · (intro wz hSw; (have q0 := ob0 hSw.1; go_simp <;> with_reducible rfl))
  try simp only [Act.put, List.setIfInBounds_toArray, List.set_cons_zero, List.set_cons_succ]
  refine Rg.takeL (i := 4) (v := ?_) rfl (by kernel_rfl) (by kernel_rfl) (by kernel_rfl) (fun _ _ _ h => h) (Or.inl ⟨by rfl, ?_⟩) (by assumption) ?_
  rotate_left
  · (intro wz hSw; (refine op_ldK HX.out HKx.out hSw.2.1 ?_; exact ⟨_, rfl, rfl⟩))
  try simp only [Act.put, List.setIfInBounds_toArray, List.set_cons_zero, List.set_cons_succ]
  refine Rg.takeL (i := 5) (v := ?_) rfl (by kernel_rfl) (by kernel_rfl) (by kernel_rfl) (fun _ _ _ h => h) (Or.inl ⟨by rfl, ?_⟩) (by assumption) ?_
  rotate_left
  · (intro wz hSw; (refine op_ldB hSw.2.2 ?_; exact ⟨_, rfl, rfl⟩))
  try simp only [Act.put, List.setIfInBounds_toArray, List.set_cons_zero, List.set_cons_succ]
  refine wpAnyH_ready (rs := [6]) (by kernel_rfl) (by simp) ?_
  refine Rg.readyL (i := 6) rfl (fun K hK => ?_)
  refine elimM (by rfl) (run_putT (HGq.out.tx.same (w' := wq.drew) fun _ _ => rfl) HNt.out HX.out HKx.out (.agg (bodyA s m)) ⟨_, _, _, rfl, rfl, rfl, rfl⟩) ?_
  rintro wu ⟨hm5, hu5⟩
  have HG5 := Lib.hid (HGq.out.texts rfl (upd_drew hu5) hm5)
  have HO5 := Lib.hid (HO0.out.upd (upd_drew hu5) fun e => HNK.out.1 (.inr (.inl (by rw [e]))))
  have HO6 := Lib.hid (HO1.out.upd (upd_drew hu5) fun e => HNK.out.2 (.inr (.inl (by rw [e]))))
  have HF5 := Lib.hid (HFr.out.upd (upd_drew hu5) (HFr.out.new _ (.inr (.inl rfl))))
  refine hK.out _ _ ?_ (fun hHeld => ?_)
  · exact ⟨HG5.out.own, HO5.out, HO6.out⟩
  clear hK K hm5 hu5
  try simp only [Act.put, List.setIfInBounds_toArray, List.set_cons_zero, List.set_cons_succ]
  refine wpAnyH_done (by kernel_rfl) ?_ _
  refine NoPanic.normal ?_
  clear hHeld
  have HIm : Hid (MoS wu (some mm) (fi e) (Ni e)) := Lib.hid (by have := HG5.out.inn e; rwa [HM1.out] at this)
  have HAp := Lib.hid (HG5.out.ap.m e mm HM1.out)
  go_wp2_with fail
  refine wp_region_noPanic ?_
  refine wp_region_held_drew (S := fun wz => Rg.Own wz bb (objA (some t) (some h) n tw) 56 ∧ Rg.Own wz g0 k 43 ∧ MoH wz (some h) (hF M1) Nh1) (by kernel_rfl) (⟨HG5.out.own, HO5.out, HG5.out.hd.same fun _ _ => rfl⟩) (fun hHeld => ?_)
  refine Rg.takeL (i := 0) (v := ?_) rfl (by kernel_rfl) (by kernel_rfl) (by kernel_rfl) (fun _ _ _ h => h) (Or.inl ⟨by rfl, ?_⟩) (by assumption) ?_
  rotate_left
  · (intro wz hSw; (try dsimp only at hSw); go_simp <;> with_reducible rfl)
  try simp only [Act.put, List.setIfInBounds_toArray, List.set_cons_zero, List.set_cons_succ]
  refine Rg.takeL (i := 1) (v := ?_) rfl (by kernel_rfl) (by kernel_rfl) (by kernel_rfl) (fun _ _ _ h => h) (Or.inl ⟨by rfl, ?_⟩) (by assumption) ?_
  rotate_left
  · (intro wz hSw; (try dsimp only at hSw); go_simp <;> with_reducible rfl)
  try simp only [Act.put, List.setIfInBounds_toArray, List.set_cons_zero, List.set_cons_succ]
  refine Rg.takeL (i := 2) (v := ?_) rfl (by kernel_rfl) (by kernel_rfl) (by kernel_rfl) (fun _ _ _ h => h) (Or.inl ⟨by rfl, ?_⟩) (by assumption) ?_
  rotate_left
  · (intro wz hSw; (try dsimp only at hSw); go_simp <;> with_reducible rfl)
  try simp only [Act.put, List.setIfInBounds_toArray, List.set_cons_zero, List.set_cons_succ]
  refine Rg.takeL (i := 3) (v := ?_) rfl (by kernel_rfl) (by kernel_rfl) (by kernel_rfl) (fun _ _ _ h => h) (Or.inl ⟨by rfl, ?_⟩) (by assumption) ?_
  rotate_left
  · (intro wz hSw; (have q0 := ob1 hSw.1; go_simp <;> with_reducible rfl))
  try simp only [Act.put, List.setIfInBounds_toArray, List.set_cons_zero, List.set_cons_succ]
  refine Rg.takeL (i := 4) (v := ?_) rfl (by kernel_rfl) (by kernel_rfl) (by kernel_rfl) (fun _ _ _ h => h) (Or.inl ⟨by rfl, ?_⟩) (by assumption) ?_
  rotate_left
  · (intro wz hSw; (try dsimp only at hSw); go_simp <;> with_reducible rfl)
  try simp only [Act.put, List.setIfInBounds_toArray, List.set_cons_zero, List.set_cons_succ]
  refine Rg.takeL (i := 5) (v := ?_) rfl (by kernel_rfl) (by kernel_rfl) (by kernel_rfl) (fun _ _ _ h => h) (Or.inl ⟨by rfl, ?_⟩) (by assumption) ?_
  rotate_left
  · (intro wz hSw; (refine op_lookH' hSw.2.2 HE.out HM1.out ?_; exact ⟨_, _, rfl, rfl, rfl⟩))
  try simp only [Act.put, List.setIfInBounds_toArray, List.set_cons_zero, List.set_cons_succ]
  refine Rg.takeL (i := 6) (v := ?_) rfl (by kernel_rfl) (by kernel_rfl) (by kernel_rfl) (fun _ _ _ h => h) (Or.inl ⟨by rfl, ?_⟩) (by assumption) ?_
  rotate_left
  · (intro wz hSw; (refine op_ldK HX.out HKx.out hSw.2.1 ?_; exact ⟨_, rfl, rfl⟩))
  try simp only [Act.put, List.setIfInBounds_toArray, List.set_cons_zero, List.set_cons_succ]
  refine wpAnyH_ready (rs := [7, 9]) (by kernel_rfl) (by simp) ?_
  refine Rg.readyC (i := 7) rfl (fun K hK => ?_) (Rg.readyL (i := 9) rfl (fun K hK => ?_))
  · refine Rg.meet (by rfl) _ _ (op_lookI' (HIm.out.same (w' := wu.drew) fun _ _ => rfl) HX.out HKx.out HV.out ?_) ?_
    · exact ⟨_, _, rfl, rfl, rfl⟩
    refine hK.out _ _ ?_ (fun hHeld => ?_)
    · exact hHeld
    clear hK K
    try simp only [Act.put, List.setIfInBounds_toArray, List.set_cons_zero, List.set_cons_succ]
    refine Rg.takeL (i := 8) (v := ?_) rfl (by kernel_rfl) (by kernel_rfl) (by kernel_rfl) (fun _ _ _ h => h) (Or.inl ⟨by rfl, ?_⟩) (by assumption) ?_
    rotate_left
    · (intro wz hSw; (have q0 := HV1.out; have q9 := HV2.out; go_simp <;> with_reducible rfl))
    try simp only [Act.put, List.setIfInBounds_toArray, List.set_cons_zero, List.set_cons_succ]
    refine wpAnyH_ready (rs := [9]) (by kernel_rfl) (by simp) ?_
    refine Rg.readyL (i := 9) rfl (fun K hK => ?_)
    refine elimMe (by rfl) (run_entry (HIm.out.same (w' := wu.drew) fun _ _ => rfl) HNi.out HX.out HKx.out HV.out ⟨_, _, rfl, rfl, rfl⟩) ?_
    rintro we st ⟨hm6, hu6, hp6⟩
    have HP6 := Lib.hid hp6
    have HU6 := Lib.hid (upd_drew hu6)
    have HM6 := Lib.hid hm6
    refine hK.out _ _ ?_ (fun hHeld => ?_)
    · exact ⟨HG5.out.own.upd HU6.out (Ne.symm HAp.out.1), HO5.out.upd HU6.out (fun e => HNK.out.1 (.inr (.inr (.inr ⟨_, by rw [HM1.out, e]⟩)))), HG5.out.hd.same (fun b g => HU6.out.block b (fun g2 => HAp.out.2.2 (by rw [g, g2])))⟩
    clear hK K hm6 hu6 hp6
    try simp only [Act.put, List.setIfInBounds_toArray, List.set_cons_zero, List.set_cons_succ]
    refine Rg.takeL (i := 10) (v := ?_) rfl (by kernel_rfl) (by kernel_rfl) (by kernel_rfl) (fun _ _ _ h => h) (Or.inl ⟨by rfl, ?_⟩) (by assumption) ?_
    rotate_left
    · (intro wz hSw; (try dsimp only at hSw); go_simp <;> with_reducible rfl)
    try simp only [Act.put, List.setIfInBounds_toArray, List.set_cons_zero, List.set_cons_succ]
    refine wpAnyH_ready (rs := [11]) (by kernel_rfl) (by simp) ?_
    refine Rg.readyL (i := 11) rfl (fun K hK => ?_)
    refine elimM (by rfl) (run_estore HP6.out rfl (.int .i64 (v + 1)) ⟨_, _, _, rfl, rfl, rfl, rfl⟩) ?_
    rintro w9 ⟨hm7, hu7⟩
    have HU7 : Hid (Rg.Upd wu mm w9) := Lib.hid (upd_trans HU6.out hu7)
    have HM7 := Lib.hid hm7
    refine hK.out _ _ ?_ (fun hHeld => ?_)
    · exact ⟨HG5.out.own.upd HU7.out (Ne.symm HAp.out.1), HO5.out.upd HU7.out (fun e => HNK.out.1 (.inr (.inr (.inr ⟨_, by rw [HM1.out, e]⟩)))), HG5.out.hd.same (fun b g => HU7.out.block b (fun g2 => HAp.out.2.2 (by rw [g, g2])))⟩
    clear hK K hm7 hu7
    try simp only [Act.put, List.setIfInBounds_toArray, List.set_cons_zero, List.set_cons_succ]
    refine wpAnyH_done (by kernel_rfl) ?_ _
    refine NoPanic.normal ?_
    clear hHeld
    have HRes : Hid (HoldP bb none none M ft Nt fi Ni Nh n tw e x s m v w (.returned (.tuple #[])) w9) := Lib.hid
      ⟨rfl, some t, some h, M1, Nh1, HG5.out.sums HM1.out HU7.out (by rw [HM1.out]; exact HM7.out), HRest.out.1, HRest.out.2, by rw [HM1.out]; exact fun g => (by cases g), HF5.out.upd HU7.out (HF5.out.new _ (.inr (.inr (.inr ⟨e, HM1.out⟩))))⟩
    clear HU7 HM7 HU6 HP6 HM6
    go_wp2
    go_end0
    exact HRes.out
  · refine elimMe (by rfl) (run_entry (HIm.out.same (w' := wu.drew) fun _ _ => rfl) HNi.out HX.out HKx.out HV.out ⟨_, _, rfl, rfl, rfl⟩) ?_
    rintro we st ⟨hm6, hu6, hp6⟩
    have HP6 := Lib.hid hp6
    have HU6 := Lib.hid (upd_drew hu6)
    have HM6 := Lib.hid hm6
    refine hK.out _ _ ?_ (fun hHeld => ?_)
    · exact ⟨HG5.out.own.upd HU6.out (Ne.symm HAp.out.1), HO5.out.upd HU6.out (fun e => HNK.out.1 (.inr (.inr (.inr ⟨_, by rw [HM1.out, e]⟩)))), HG5.out.hd.same (fun b g => HU6.out.block b (fun g2 => HAp.out.2.2 (by rw [g, g2])))⟩
    clear hK K hm6 hu6 hp6
    try simp only [Act.put, List.setIfInBounds_toArray, List.set_cons_zero, List.set_cons_succ]
    refine Rg.takeL (i := 10) (v := ?_) rfl (by kernel_rfl) (by kernel_rfl) (by kernel_rfl) (fun _ _ _ h => h) (Or.inl ⟨by rfl, ?_⟩) (by assumption) ?_
    rotate_left
    · (intro wz hSw; (try dsimp only at hSw); go_simp <;> with_reducible rfl)
    try simp only [Act.put, List.setIfInBounds_toArray, List.set_cons_zero, List.set_cons_succ]
    refine wpAnyH_ready (rs := [7]) (by kernel_rfl) (by simp) ?_
    refine Rg.readyL (i := 7) rfl (fun K hK => ?_)
    refine Rg.meet (by rfl) _ _ (op_lookI' HM6.out HX.out HKx.out (by first | (rw [setF_at]; done) | (rw [setF_at]; rfl)) ?_) ?_
    · exact ⟨_, _, rfl, rfl, rfl⟩
    refine hK.out _ _ ?_ (fun hHeld => ?_)
    · exact hHeld
    clear hK K
    try simp only [Act.put, List.setIfInBounds_toArray, List.set_cons_zero, List.set_cons_succ]
    refine Rg.takeL (i := 8) (v := ?_) rfl (by kernel_rfl) (by kernel_rfl) (by kernel_rfl) (fun _ _ _ h => h) (Or.inl ⟨by rfl, ?_⟩) (by assumption) ?_
    rotate_left
    · (intro wz hSw; (have q0 := HV1.out; have q9 := HV2.out; go_simp <;> with_reducible rfl))
    try simp only [Act.put, List.setIfInBounds_toArray, List.set_cons_zero, List.set_cons_succ]
    refine wpAnyH_ready (rs := [11]) (by kernel_rfl) (by simp) ?_
    refine Rg.readyL (i := 11) rfl (fun K hK => ?_)
    refine elimM (by rfl) (run_estore HP6.out rfl (.int .i64 (v + 1)) ⟨_, _, _, rfl, rfl, rfl, rfl⟩) ?_
    rintro w9 ⟨hm7, hu7⟩
    have HU7 : Hid (Rg.Upd wu mm w9) := Lib.hid (upd_trans HU6.out hu7)
    have HM7 := Lib.hid hm7
    refine hK.out _ _ ?_ (fun hHeld => ?_)
    · exact ⟨HG5.out.own.upd HU7.out (Ne.symm HAp.out.1), HO5.out.upd HU7.out (fun e => HNK.out.1 (.inr (.inr (.inr ⟨_, by rw [HM1.out, e]⟩)))), HG5.out.hd.same (fun b g => HU7.out.block b (fun g2 => HAp.out.2.2 (by rw [g, g2])))⟩
    clear hK K hm7 hu7
    try simp only [Act.put, List.setIfInBounds_toArray, List.set_cons_zero, List.set_cons_succ]
    refine wpAnyH_done (by kernel_rfl) ?_ _
    refine NoPanic.normal ?_
    clear hHeld
    have HRes : Hid (HoldP bb none none M ft Nt fi Ni Nh n tw e x s m v w (.returned (.tuple #[])) w9) := Lib.hid
      ⟨rfl, some t, some h, M1, Nh1, HG5.out.sums HM1.out HU7.out (by rw [HM1.out]; exact HM7.out), HRest.out.1, HRest.out.2, by rw [HM1.out]; exact fun g => (by cases g), HF5.out.upd HU7.out (HF5.out.new _ (.inr (.inr (.inr ⟨e, HM1.out⟩))))⟩
    clear HU7 HM7 HU6 HP6 HM6
    go_wp2
    go_end0
    exact HRes.out
end
end Bd
end Go.Proofs.YtlembfhdljmcoaaDoor

/-
  Layer 12: a store's memory behind a put, behind a row that is taken out: told by rows again.
-/
namespace Go.Proofs.YtlembfhdljmcoaaDoor
set_option maxRecDepth 20000
open Go.RowKit Go.Maps

namespace Bd
open Rf Sm
theorem oth_len {e : Int} {s : ByteArray} {l l' : List Rw} (h : Oth e s l l') : l'.length + (if hasR l e s then 1 else 0) = l.length + (if hasR l' e s then 1 else 0) := by
  have := h.cnt (fun _ => true) fun _ _ => rfl
  rwa [List.filter_eq_self.2 (fun _ _ => rfl), List.filter_eq_self.2 (fun _ _ => rfl)] at this
theorem ftx_at {l : List Rw} (o : OneS l) {r : Rw} (hr : r ∈ l) {s : ByteArray} (h : r.s = s) : ftx l (sumB s) = some (bodyV s (epN l s)) := by
  subst h
  exact ftx_some o hr
theorem fix_at {l : List Rw} (u : UqR l) (o : OneS l) {r : Rw} (hr : r ∈ l) {e : Int} {s : ByteArray} {c : Int} (he : r.e = e) (h : r.s = s) (hc : r.n = c) : fix_ l e (sumB s) = some (.int .i64 c) := by
  subst h he hc
  exact fix_some u o hr
theorem has_of {l : List Rw} {r : Rw} (h : r ∈ l) : hasR l r.e r.s = true := hasR_iff.2 ⟨r, h, rfl, rfl⟩
theorem put_hasR {l : List Rw} (h : OkR l) (e : Int) (s : ByteArray) : hasR (putR l e s) e s = true := has_of (put_has h e s)
theorem ftx_is {l : List Rw} (o : OneS l) {s : ByteArray} (hs : ∀ t ∈ textsR l, sumB t = sumB s → t = s) : (ftx l (sumB s)).isSome = true ↔ ∃ r ∈ l, r.s = s := by
  rcases ftx_cases o (sumB s) with ⟨r, hr, hx, hf⟩ | ⟨hn, hf⟩
  · rw [hf]
    exact ⟨fun _ => ⟨r, hr, hs _ (mem_texts.2 ⟨r, hr, rfl⟩) hx⟩, fun _ => rfl⟩
  · rw [hf]
    exact ⟨fun h => (by cases h), fun ⟨r, hr, h⟩ => absurd (by rw [h]) (hn r hr)⟩
theorem fix_is {l : List Rw} (u : UqR l) (o : OneS l) {e : Int} {s : ByteArray} (hs : ∀ t ∈ textsR l, sumB t = sumB s → t = s) : (fix_ l e (sumB s)).isSome = hasR l e s := by
  rcases fix_cases u o e (sumB s) with ⟨r, hr, he, hx, hf⟩ | ⟨hn, hf⟩
  · rw [hf]
    exact (hasR_iff.2 ⟨r, hr, he, hs _ (mem_texts.2 ⟨r, hr, rfl⟩) hx⟩).symm
  · rw [hf]
    cases h : hasR l e s with
    | false => rfl
    | true =>
      obtain ⟨r, hr, h1, h2⟩ := hasR_iff.1 h
      exact absurd (by rw [h2]) (hn r hr h1)
theorem fix_get {l : List Rw} (u : UqR l) (o : OneS l) {e : Int} {s : ByteArray} (hs : ∀ t ∈ textsR l, sumB t = sumB s → t = s) : (fix_ l e (sumB s)).getD (.int .i64 0) = .int .i64 (cntR l e s) := by
  rcases fix_cases u o e (sumB s) with ⟨r, hr, he, hx, hf⟩ | ⟨hn, hf⟩
  · have h1 : r.s = s := hs _ (mem_texts.2 ⟨r, hr, rfl⟩) hx
    rw [hf, ← he, ← h1, cnt_row u hr]
    rfl
  · rw [hf, cnt_none fun r hr k => hn r hr k.1 (by rw [k.2])]
    rfl
section
variable {bb : Nat} {tm hm tm' hm' : Option Nat} {M M' : Int → Option Nat} {l : List Rw} {tw : Option (ByteArray × ByteArray)} {w' : World} {e : Int} {s : ByteArray} {Nh Nh' : Nat} {n : Int}
theorem put_size {l : List Rw} (hok : OkR l) (e : Int) (s : ByteArray) : (s ∈ textsR l → sizeT (textsR (putR l e s)) = sizeT (textsR l)) ∧ (¬ s ∈ textsR l → sizeT (textsR (putR l e s)) = s.size + sizeT (textsR l)) := by
  have ho := oth_put hok e s
  have hp : ∃ r ∈ putR l e s, r.s = s := ⟨_, put_has hok e s, rfl⟩
  rw [mem_texts]
  exact ⟨fun h => sizeT_perm (ho.texts_same ⟨fun _ => h, fun _ => hp⟩), fun h => (sizeT_perm (ho.texts_new hp h)).trans (sizeT_cons _ _)⟩
theorem st_put (hok : OkR l) (o : OneS l) (hs : ∀ t ∈ textsR l, sumB t = sumB s → t = s) (hfull : ∀ e m, M e = some m → 0 < exN l e) (hN : Nh = (epochsR l).length) (hMe : M e = none → exN l e = 0)
    (hn : n = sizeT (textsR (putR l e s))) {m : Nat} (hm0 : m = epN (putR l e s) s) {v : Int} (hv : v = cntR l e s)
    (g : Sg bb tm' hm' M' (setF (ftx l) (sumB s) (some (bodyV s m))) (more (ftx l) (sumB s) (textsR l).length) (fun e' => if e' = e then setF (fix_ l e) (sumB s) (some (.int .i64 (v + 1))) else fix_ l e') (fun e' => if e' = e then more (fix_ l e) (sumB s) (exN l e) else exN l e') Nh' n tw w')
    (h1 : Nh' = more (hF M) e Nh) (h3 : ∀ e', e' ≠ e → M' e' = M e') : St bb tm' hm' M' (putR l e s) tw w' := by
  subst hn hm0 hv
  have ho := oth_put hok e s
  have o' := one_put (e := e) hok o hs
  have hp : ∃ r ∈ putR l e s, r.s = s := ⟨_, put_has hok e s, rfl⟩
  have hP := put_hasR hok e s
  have hlen := oth_len ho
  have hex := ho.ex
  rw [hP] at hlen hex
  refine ⟨⟨Nh', ?_, g.congr (fun y hy => ?_) ?_ (fun e' y hy => ?_) (fun e' => ?_) rfl⟩, ho.u', o', fun e' m' he' => ?_⟩
  · rw [h1, hN]
    have hpe : ∃ r ∈ putR l e s, r.e = e := ⟨_, put_has hok e s, rfl⟩
    unfold more hF
    cases hM : M e with
    | none =>
      have h0 := hMe hM
      have hn : ¬ ∃ r ∈ l, r.e = e := fun q => by have := ex_pos.2 q; omega
      exact (ho.epochs_new hpe hn).symm
    | some m9 =>
      have hn := ex_pos.1 (hfull e m9 hM)
      exact (ho.epochs_same ⟨fun _ => hn, fun _ => hpe⟩).symm
  · unfold setF
    by_cases hx : y = sumB s
    · subst hx
      rw [if_pos rfl]
      exact ftx_at o' (put_has hok e s) rfl
    · rw [if_neg hx]
      exact ho.ftx_ne o o' hx
  · unfold more
    by_cases hh : ∃ r ∈ l, r.s = s
    · rw [if_pos ((ftx_is o hs).2 hh)]
      exact (ho.texts_same ⟨fun _ => hh, fun _ => hp⟩).length_eq
    · rw [if_neg fun g => hh ((ftx_is o hs).1 g)]
      exact (ho.texts_new hp hh).length_eq
  · by_cases he : e' = e
    · subst he
      simp only [if_true]
      unfold setF
      by_cases hx : y = sumB s
      · subst hx
        rw [if_pos rfl]
        exact fix_at ho.u' o' (put_has hok e' s) rfl rfl rfl
      · rw [if_neg hx]
        exact ho.fix_ne o o' fun g => hx g.2
    · simp only [if_neg he]
      exact ho.fix_ne o o' fun g => he g.1
  · by_cases he : e' = e
    · subst he
      simp only [if_true]
      unfold more
      rw [fix_is hok.u o hs]
      split at hex
      · rename_i q; rw [if_pos q]; simp at hex; omega
      · rename_i q; rw [if_neg q]; simp at hex; omega
    · simp only [if_neg he]
      exact ho.ex_ne he
  · by_cases he : e' = e
    · subst he
      exact ex_pos.2 ⟨_, put_has hok e' s, rfl⟩
    · rw [ho.ex_ne he]
      exact hfull e' m' (by rw [← h3 e' he]; exact he')
end
end Bd
end Go.Proofs.YtlembfhdljmcoaaDoor
