/-
  Layer 12: the contracts of free, Free.
-/
import Derived.Test.YtlembfhdljmcoaaDoorMb13
import Derived.Test.YtlembfhdljmcoaaDoorRows
import Derived.WalkKit
import Derived.ProofKit
import Derived.SliceStrings
set_option linter.unusedSimpArgs false
set_option linter.unusedVariables false
namespace Go.Proofs.YtlembfhdljmcoaaDoor
set_option maxRecDepth 20000
open Go.RowKit Go.Maps

namespace Bd
open Rf Sm
section
variable {bb : Nat} {tm hm : Option Nat} {M : Int → Option Nat} {l : List Rw} {tw : Option (ByteArray × ByteArray)} {w : World} {e : Int}
theorem leave_any {c1 c2 c3 : Nat} {s : ByteArray} (hS : St bb tm hm M l tw w) (hr : hasR l e s = true) (he : W64 e) (hl : l.length ≤ 40) (hz : ∀ r ∈ l, r.s.size ≤ 200) (lv : Lv w bb e (M e) c1 c2 c3) (hc : ∀ k, k = c1 ∨ k = c2 ∨ k = c3 → ¬ KS bb tm hm M k) :
    ∃ m, M e = some m ∧ Calls Tryd.prog 35 #[.agg (kc (sumB s)), .pointer (some ⟨c1, 0, none⟩), .pointer (some ⟨c2, 0, none⟩), .pointer (some ⟨c3, 0, none⟩)] w (LeaveP bb tm hm M l tw e s m c1 c2 c3 w) := by
  obtain ⟨Nh, hNe, g⟩ := hS.g
  obtain ⟨r, hr1, hr2, hr3⟩ := hasR_iff.1 hr
  have hx := ex_pos.2 ⟨r, hr1, hr2⟩
  cases hM : M e with
  | none => have := (ex_none g hM).2; omega
  | some m =>
    refine ⟨m, rfl, ?_⟩
    rw [hM] at lv
    cases tm with
    | none =>
      have h1 := g.tx.2
      have h2 : s ∈ textsR l := mem_texts.2 ⟨r, hr1, hr3⟩
      rw [List.length_eq_zero_iff.1 h1] at h2
      cases h2
    | some t =>
      cases hm with
      | none => exact absurd (g.both.2 rfl) (fun h => by cases h)
      | some h =>
        rcases Nat.eq_zero_or_pos (exN (delR l e s) e) with hE | hE
        · rcases Nat.eq_zero_or_pos (epN (delR l e s) s) with hT | hT
          · exact leave_lg hS hr he hl hz lv hM hc hE hT
          · exact leave_ls hS hr he hl hz lv hM hc hE hT
        · rcases Nat.eq_zero_or_pos (epN (delR l e s) s) with hT | hT
          · exact leave_kg hS hr he hl hz lv hM hc hE hT
          · exact leave_ks hS hr he hl hz lv hM hc hE hT
theorem op_field_body {ev : Operand → Value} {o : Oper} {w : World} {s : ByteArray} {m : Nat} (ho : ∃ x, o.op = .field 68 x 0 ∧ ev x = .agg (bodyA s m)) : (execOp ev o).run Tryd.prog w = .ok (.value (.string s)) w := by
  obtain ⟨x, ho, hx⟩ := ho
  unfold execOp
  simp only [ho, hx]
  kernel_rfl
/-- what free tells and does -/
def FreeP (bb : Nat) (tm hm : Option Nat) (M : Int → Option Nat) (l : List Rw) (tw : Option (ByteArray × ByteArray)) (e : Int) (s : ByteArray) (w : World) (en : Ending) (w' : World) : Prop :=
  en = .returned (.int .i64 (if findR l e s < 0 then 7 else 0)) ∧ ∃ M', St bb tm hm M' (if findR l e s < 0 then l else freeR l e s) tw w' ∧ FrK (KS bb tm hm M) (KS bb tm hm M') w w'
/-- held once less -/
theorem st_less {Nh : Nat} {n : Int} {w' : World} {s : ByteArray} {c : Int} {r : Rw} (h : UqR l) (o : OneS l) (hfull : ∀ e m, M e = some m → 0 < exN l e) (hr : r ∈ l) (h1 : r.e = e) (h2 : r.s = s) (h3 : r.n = c) (hN : Nh = (epochsR l).length) (hn : n = sizeT (textsR l))
    (g : Sg bb tm hm M (ftx l) (textsR l).length (fun e' => if e' = e then setF (fix_ l e) (sumB s) (some (.int .i64 (c - 1))) else fix_ l e') (fun e' => if e' = e then more (fix_ l e) (sumB s) (exN l e) else exN l e') Nh n tw w') : St bb tm hm M (lessL l e s) tw w' := by
  subst h1 h2 h3 hN hn
  have ho := oth_less h r.e r.s
  have o' := one_less o r.e r.s
  have hR := has_of hr
  have hr' := less_mem hr
  have hR' : hasR (lessL l r.e r.s) r.e r.s = true := hasR_iff.2 ⟨_, hr', rfl, rfl⟩
  have hs := one_is o ⟨r, hr, rfl⟩
  have hep := ho.ep
  have hex := ho.ex
  rw [hR, hR'] at hep hex
  simp at hep hex
  have hpm := ho.texts_same ⟨fun _ => ⟨r, hr, rfl⟩, fun _ => ⟨_, hr', rfl⟩⟩
  have hee := ho.epochs_same ⟨fun _ => ⟨r, hr, rfl⟩, fun _ => ⟨_, hr', rfl⟩⟩
  refine ⟨⟨_, hee.symm, g.congr (fun y _ => ?_) hpm.length_eq (fun e' y _ => ?_) (fun e' => ?_) (by rw [sizeT_perm hpm])⟩, ho.u', o', fun e' m hm => ?_⟩
  · by_cases hx : y = sumB r.s
    · subst hx
      rw [ftx_at o' hr' rfl, ftx_at o hr rfl, hep]
    · exact ho.ftx_ne o o' hx
  · by_cases he : e' = r.e
    · subst he
      simp only [if_true]
      unfold setF
      by_cases hx : y = sumB r.s
      · subst hx
        rw [if_pos rfl]
        exact fix_at ho.u' o' hr' rfl rfl rfl
      · rw [if_neg hx]
        exact ho.fix_ne o o' fun g => hx g.2
    · simp only [if_neg he]
      exact ho.fix_ne o o' fun g => he g.1
  · by_cases he : e' = r.e
    · subst he
      simp only [if_true]
      unfold more
      rw [fix_is h o hs, if_pos hR]
      exact hex
    · simp only [if_neg he]
      exact ho.ex_ne he
  · by_cases he : e' = r.e
    · subst he
      rw [hex]
      exact hfull _ m hm
    · rw [ho.ex_ne he]
      exact hfull e' m hm
theorem less_len (l : List Rw) (e : Int) (s : ByteArray) : (lessL l e s).length = l.length := by simp [lessL]
theorem less_row {l : List Rw} {e : Int} {s : ByteArray} {p : ByteArray → Prop} (h : ∀ r ∈ l, p r.s) : ∀ r ∈ lessL l e s, p r.s := fun r hr => by
  obtain ⟨q, hq, rfl⟩ := List.mem_map.1 hr
  rw [less_s]
  exact h q hq
set_option maxHeartbeats 8000000 in
theorem free_a {s : ByteArray} (h : St bb tm hm M l tw w) (hF : Bd.Fine 40 l) (he : W64 e) (hf : fix_ l e (sumB s) = none) :
    Calls Tryd.prog 23 #[.pointer (some ⟨bb, 0, none⟩), .int .i64 e, .string s, .agg (kc (sumB s))] w (FreeP bb tm hm M l tw e s w) := by
  obtain ⟨Nh, hNe, g⟩ := h.g
  have hok := hF.ok
  have HE := Lib.hid he
  have HSt := Lib.hid h
  have HX : Hid (L32 (sumB s)) := Lib.hid (sumB_length s)
  have HNe := Lib.hid hNe
  have HF := Lib.hid hF
  have HFi : Hid (findR l e s < 0) := Lib.hid ((find_iff hok.n).2 (cnt_none fun r hr k => by
    have := fix_at h.u h.o hr k.1 k.2 rfl
    rw [this] at hf
    cases hf))
  have HV1 : Hid ((fix_ l e (sumB s)).getD (.int .i64 0) = .int .i64 0) := Lib.hid (by rw [hf]; rfl)
  obtain ⟨x, hx⟩ : ∃ x, sumB s = x := ⟨_, rfl⟩
  have HXs := Lib.hid hx
  rw [hx] at HX HV1
  obtain ⟨n, hn⟩ : ∃ n : Nat, sizeT (textsR l) = n := ⟨_, rfl⟩
  have HNn := Lib.hid hn
  rw [hn] at g
  obtain ⟨k, hk⟩ : ∃ k, kc x = k := ⟨_, rfl⟩
  have HKx := Lib.hid hk
  obtain ⟨wG, hwG⟩ : ∃ wG, wG = w.alloc (.cells k 43) := ⟨_, rfl⟩
  have hbG : Below w.heap.size w wG := by rw [hwG]; exact al1 _ _
  have HBG := Lib.hid hbG
  have HGG := Lib.hid (g.below hbG)
  have HO0 : Hid (Rg.Own wG w.heap.size k 43) := Lib.hid (by rw [hwG]; exact Rg.Own.new _ _ _)
  have HLt : Hid (∀ k, KS bb tm hm M k → k < w.heap.size) := Lib.hid g.lt
  have HWG := Lib.hid hwG
  have q1 := ob1 (g.below hbG).own
  have q2 := ob1 (g.below hbG).own
  rw [hwG] at q1
  rw [hx, hk]
  clear hx hn hk hwG hbG h hF he hok hNe g hf
  go_enter Tryd.func23, Tryd.ntmps23
  go_wp2_with (first
    | (at_lookup; rw [← HWG.out]; refine Rg.run rfl _ _ (op_lookH' HGG.out.hd HE.out rfl ⟨_, _, rfl, rfl, rfl⟩) ?_))
  obtain ⟨g0, hg0⟩ : ∃ g, w.heap.size = g := ⟨_, rfl⟩
  have HG0 : Hid (g0 = w.heap.size) := Lib.hid hg0.symm
  rw [hg0] at HO0 ⊢
  clear hg0 q1 q2
  refine wp_region_noPanic ?_
  refine wp_region_held_drew (S := fun wz => Rg.Own wz bb (objA tm hm n tw) 56 ∧ Rg.Own wz g0 k 43 ∧ MoS wz (M e) (fix_ l e) (exN l e) ∧ MoS wz tm (ftx l) (textsR l).length) (by kernel_rfl) (⟨HGG.out.own, HO0.out, (HGG.out.inn e).same fun _ _ => rfl, HGG.out.tx.same fun _ _ => rfl⟩) (fun hHeld => ?_)
  refine Rg.takeL (i := 0) (v := ?_) rfl (by kernel_rfl) (by kernel_rfl) (by kernel_rfl) (fun _ _ _ h => h) (Or.inl ⟨by rfl, ?_⟩) (by assumption) ?_
  rotate_left
  · (intro wz hSw; (try dsimp only at hSw); go_simp <;> with_reducible rfl)
  try simp only [Act.put, List.setIfInBounds_toArray, List.set_cons_zero, List.set_cons_succ]
  refine Rg.takeL (i := 1) (v := ?_) rfl (by kernel_rfl) (by kernel_rfl) (by kernel_rfl) (fun _ _ _ h => h) (Or.inl ⟨by rfl, ?_⟩) (by assumption) ?_
  rotate_left
  · (intro wz hSw; (refine op_ldK HX.out HKx.out hSw.2.1 ?_; exact ⟨_, rfl, rfl⟩))
  try simp only [Act.put, List.setIfInBounds_toArray, List.set_cons_zero, List.set_cons_succ]
  refine Rg.takeL (i := 2) (v := ?_) rfl (by kernel_rfl) (by kernel_rfl) (by kernel_rfl) (fun _ _ _ h => h) (Or.inl ⟨by rfl, ?_⟩) (by assumption) ?_
  rotate_left
  · (intro wz hSw; (refine op_lookI' (V := .int .i64 0) hSw.2.2.1 HX.out HKx.out HV1.out ?_; exact ⟨_, _, rfl, rfl, rfl⟩))
  try simp only [Act.put, List.setIfInBounds_toArray, List.set_cons_zero, List.set_cons_succ]
  refine Rg.takeL (i := 3) (v := ?_) rfl (by kernel_rfl) (by kernel_rfl) (by kernel_rfl) (fun _ _ _ h => h) (Or.inl ⟨by rfl, ?_⟩) (by assumption) ?_
  rotate_left
  · (intro wz hSw; (try dsimp only at hSw); go_simp <;> with_reducible rfl)
  try simp only [Act.put, List.setIfInBounds_toArray, List.set_cons_zero, List.set_cons_succ]
  refine Rg.takeL (i := 4) (v := ?_) rfl (by kernel_rfl) (by kernel_rfl) (by kernel_rfl) (fun _ _ _ h => h) (Or.inl ⟨by rfl, ?_⟩) (by assumption) ?_
  rotate_left
  · (intro wz hSw; (try dsimp only at hSw); go_simp <;> with_reducible rfl)
  try simp only [Act.put, List.setIfInBounds_toArray, List.set_cons_zero, List.set_cons_succ]
  refine Rg.takeL (i := 5) (v := undef) rfl (by kernel_rfl) (by kernel_rfl) (by kernel_rfl) (fun _ _ _ h => h) (Or.inr ⟨by rfl, rfl⟩) (by assumption) ?_
  try simp only [Act.put, List.setIfInBounds_toArray, List.set_cons_zero, List.set_cons_succ]
  refine Rg.takeL (i := 6) (v := undef) rfl (by kernel_rfl) (by kernel_rfl) (by kernel_rfl) (fun _ _ _ h => h) (Or.inr ⟨by rfl, rfl⟩) (by assumption) ?_
  try simp only [Act.put, List.setIfInBounds_toArray, List.set_cons_zero, List.set_cons_succ]
  refine Rg.takeL (i := 7) (v := undef) rfl (by kernel_rfl) (by kernel_rfl) (by kernel_rfl) (fun _ _ _ h => h) (Or.inr ⟨by rfl, rfl⟩) (by assumption) ?_
  try simp only [Act.put, List.setIfInBounds_toArray, List.set_cons_zero, List.set_cons_succ]
  refine Rg.takeL (i := 8) (v := undef) rfl (by kernel_rfl) (by kernel_rfl) (by kernel_rfl) (fun _ _ _ h => h) (Or.inr ⟨by rfl, rfl⟩) (by assumption) ?_
  try simp only [Act.put, List.setIfInBounds_toArray, List.set_cons_zero, List.set_cons_succ]
  refine Rg.takeL (i := 9) (v := undef) rfl (by kernel_rfl) (by kernel_rfl) (by kernel_rfl) (fun _ _ _ h => h) (Or.inr ⟨by rfl, rfl⟩) (by assumption) ?_
  try simp only [Act.put, List.setIfInBounds_toArray, List.set_cons_zero, List.set_cons_succ]
  refine Rg.takeL (i := 10) (v := undef) rfl (by kernel_rfl) (by kernel_rfl) (by kernel_rfl) (fun _ _ _ h => h) (Or.inr ⟨by rfl, rfl⟩) (by assumption) ?_
  try simp only [Act.put, List.setIfInBounds_toArray, List.set_cons_zero, List.set_cons_succ]
  refine Rg.takeL (i := 11) (v := undef) rfl (by kernel_rfl) (by kernel_rfl) (by kernel_rfl) (fun _ _ _ h => h) (Or.inr ⟨by rfl, rfl⟩) (by assumption) ?_
  try simp only [Act.put, List.setIfInBounds_toArray, List.set_cons_zero, List.set_cons_succ]
  refine Rg.takeL (i := 12) (v := undef) rfl (by kernel_rfl) (by kernel_rfl) (by kernel_rfl) (fun _ _ _ h => h) (Or.inr ⟨by rfl, rfl⟩) (by assumption) ?_
  try simp only [Act.put, List.setIfInBounds_toArray, List.set_cons_zero, List.set_cons_succ]
  refine Rg.takeL (i := 13) (v := undef) rfl (by kernel_rfl) (by kernel_rfl) (by kernel_rfl) (fun _ _ _ h => h) (Or.inr ⟨by rfl, rfl⟩) (by assumption) ?_
  try simp only [Act.put, List.setIfInBounds_toArray, List.set_cons_zero, List.set_cons_succ]
  refine Rg.takeL (i := 14) (v := ?_) rfl (by kernel_rfl) (by kernel_rfl) (by kernel_rfl) (fun _ _ _ h => h) (Or.inl ⟨by rfl, ?_⟩) (by assumption) ?_
  rotate_left
  · (intro wz hSw; (try dsimp only at hSw); go_simp <;> with_reducible rfl)
  try simp only [Act.put, List.setIfInBounds_toArray, List.set_cons_zero, List.set_cons_succ]
  refine wpAnyH_done (by kernel_rfl) ?_ _
  refine NoPanic.normal ?_
  clear hHeld
  have hb2 := (Below.refl wG.heap.size wG).drew
  have HG2 := Lib.hid (HGG.out.below hb2)
  have HO2 := Lib.hid (HO0.out.below hb2)
  have HFr2 := Lib.hid (((FrK.start (KS bb tm hm M) w).more HBG.out).more hb2)
  obtain ⟨w2, hw2⟩ : ∃ w2, w2 = wG.drew := ⟨_, rfl⟩
  rw [← hw2] at HG2 HO2 HFr2 ⊢
  clear hw2 hb2
  have HRes : Hid (FreeP bb tm hm M l tw e s w (.returned (.int .i64 7)) w2) := Lib.hid (by
    unfold FreeP
    rw [if_pos HFi.out, if_pos HFi.out]
    refine ⟨rfl, M, ?_, HFr2.out⟩
    have hg := HG2.out
    rw [← HNn.out] at hg
    exact ⟨⟨Nh, HNe.out, hg⟩, HSt.out.u, HSt.out.o, HSt.out.full⟩)
  go_wp2_with fail
  go_ret
  exact HRes.out
set_option maxHeartbeats 8000000 in
theorem free_b {s : ByteArray} (h : St bb tm hm M l tw w) (hF : Bd.Fine 40 l) (he : W64 e) {r : Rw} (hr : r ∈ l) (hre : r.e = e) (hrx : sumB r.s = sumB s) (hrs : r.s ≠ s) :
    Calls Tryd.prog 23 #[.pointer (some ⟨bb, 0, none⟩), .int .i64 e, .string s, .agg (kc (sumB s))] w (FreeP bb tm hm M l tw e s w) := by
  obtain ⟨Nh, hNe, g⟩ := h.g
  have hok := hF.ok
  have HE := Lib.hid he
  have HSt := Lib.hid h
  have HX : Hid (L32 (sumB s)) := Lib.hid (sumB_length s)
  have HNe := Lib.hid hNe
  have HF := Lib.hid hF
  have hn1 : 1 ≤ r.n := hok.n r hr
  have hn2 : r.n ≤ 40 := (hF.row r hr).1
  have HCb : Hid (1 ≤ r.n ∧ r.n ≤ 40) := Lib.hid ⟨hn1, hn2⟩
  have HFi : Hid (findR l e s < 0) := Lib.hid ((find_iff hok.n).2 (cnt_none fun q hq k => hrs (by
    have := h.o r hr q hq (by rw [k.2]; exact hrx)
    rw [this, k.2])))
  have HV1 : Hid ((fix_ l e (sumB s)).getD (.int .i64 0) = .int .i64 r.n) := Lib.hid (by rw [← hrx, ← hre, fix_some h.u h.o hr]; rfl)
  have HV2 : Hid ((ftx l (sumB s)).getD (bodyV eB 0) = .agg (bodyA r.s (epN l r.s))) := Lib.hid (by rw [← hrx, ftx_some h.o hr]; rfl)
  have hys : (r.s.toList == s.toList) = false := by rw [str_eq]; exact decide_eq_false hrs
  have HYS := Lib.hid hys
  have hcN : r.n ≠ 0 := by omega
  have HC0 : Hid ((r.n == 0) = false) := Lib.hid (by rw [beq_eq_false_iff_ne]; omega)
  have HC1 : Hid (decide (r.n = 0) = false) := Lib.hid (decide_eq_false (by omega))
  obtain ⟨c, hc9⟩ : ∃ c, r.n = c := ⟨_, rfl⟩
  have HRc := Lib.hid hc9
  rw [hc9] at HV1 HC0 HC1 HCb
  obtain ⟨x, hx⟩ : ∃ x, sumB s = x := ⟨_, rfl⟩
  have HXs := Lib.hid hx
  rw [hx] at HX HV1 HV2
  obtain ⟨n, hn⟩ : ∃ n : Nat, sizeT (textsR l) = n := ⟨_, rfl⟩
  have HNn := Lib.hid hn
  rw [hn] at g
  obtain ⟨k, hk⟩ : ∃ k, kc x = k := ⟨_, rfl⟩
  have HKx := Lib.hid hk
  obtain ⟨wG, hwG⟩ : ∃ wG, wG = w.alloc (.cells k 43) := ⟨_, rfl⟩
  have hbG : Below w.heap.size w wG := by rw [hwG]; exact al1 _ _
  have HBG := Lib.hid hbG
  have HGG := Lib.hid (g.below hbG)
  have HO0 : Hid (Rg.Own wG w.heap.size k 43) := Lib.hid (by rw [hwG]; exact Rg.Own.new _ _ _)
  have HLt : Hid (∀ k, KS bb tm hm M k → k < w.heap.size) := Lib.hid g.lt
  have HWG := Lib.hid hwG
  have q1 := ob1 (g.below hbG).own
  have q2 := ob1 (g.below hbG).own
  rw [hwG] at q1
  rw [hx, hk]
  clear hx hn hk hwG hbG h hF he hok hNe g hr hre hrx hrs hn1 hn2 hys hc9 hcN
  go_enter Tryd.func23, Tryd.ntmps23
  go_wp2_with (first
    | (at_lookup; rw [← HWG.out]; refine Rg.run rfl _ _ (op_lookH' HGG.out.hd HE.out rfl ⟨_, _, rfl, rfl, rfl⟩) ?_))
  obtain ⟨g0, hg0⟩ : ∃ g, w.heap.size = g := ⟨_, rfl⟩
  have HG0 : Hid (g0 = w.heap.size) := Lib.hid hg0.symm
  rw [hg0] at HO0 ⊢
  clear hg0 q1 q2
  refine wp_region_noPanic ?_
  refine wp_region_held_drew (S := fun wz => Rg.Own wz bb (objA tm hm n tw) 56 ∧ Rg.Own wz g0 k 43 ∧ MoS wz (M e) (fix_ l e) (exN l e) ∧ MoS wz tm (ftx l) (textsR l).length) (by kernel_rfl) (⟨HGG.out.own, HO0.out, (HGG.out.inn e).same fun _ _ => rfl, HGG.out.tx.same fun _ _ => rfl⟩) (fun hHeld => ?_)
  refine Rg.takeL (i := 0) (v := ?_) rfl (by kernel_rfl) (by kernel_rfl) (by kernel_rfl) (fun _ _ _ h => h) (Or.inl ⟨by rfl, ?_⟩) (by assumption) ?_
  rotate_left
  · (intro wz hSw; (try dsimp only at hSw); go_simp <;> with_reducible rfl)
  try simp only [Act.put, List.setIfInBounds_toArray, List.set_cons_zero, List.set_cons_succ]
  refine Rg.takeL (i := 1) (v := ?_) rfl (by kernel_rfl) (by kernel_rfl) (by kernel_rfl) (fun _ _ _ h => h) (Or.inl ⟨by rfl, ?_⟩) (by assumption) ?_
  rotate_left
  · (intro wz hSw; (refine op_ldK HX.out HKx.out hSw.2.1 ?_; exact ⟨_, rfl, rfl⟩))
  try simp only [Act.put, List.setIfInBounds_toArray, List.set_cons_zero, List.set_cons_succ]
  refine Rg.takeL (i := 2) (v := ?_) rfl (by kernel_rfl) (by kernel_rfl) (by kernel_rfl) (fun _ _ _ h => h) (Or.inl ⟨by rfl, ?_⟩) (by assumption) ?_
  rotate_left
  · (intro wz hSw; (refine op_lookI' (V := .int .i64 c) hSw.2.2.1 HX.out HKx.out HV1.out ?_; exact ⟨_, _, rfl, rfl, rfl⟩))
  try simp only [Act.put, List.setIfInBounds_toArray, List.set_cons_zero, List.set_cons_succ]
  refine Rg.takeL (i := 3) (v := ?_) rfl (by kernel_rfl) (by kernel_rfl) (by kernel_rfl) (fun _ _ _ h => h) (Or.inl ⟨by rfl, ?_⟩) (by assumption) ?_
  rotate_left
  · (intro wz hSw; (have q0 := HC0.out; have q9 := HC1.out; go_simp <;> with_reducible rfl))
  try simp only [Act.put, List.setIfInBounds_toArray, List.set_cons_zero, List.set_cons_succ]
  refine Rg.takeL (i := 4) (v := ?_) rfl (by kernel_rfl) (by kernel_rfl) (by kernel_rfl) (fun _ _ _ h => h) (Or.inl ⟨by rfl, ?_⟩) (by assumption) ?_
  rotate_left
  · (intro wz hSw; (try dsimp only at hSw); go_simp <;> with_reducible rfl)
  try simp only [Act.put, List.setIfInBounds_toArray, List.set_cons_zero, List.set_cons_succ]
  refine Rg.takeL (i := 5) (v := ?_) rfl (by kernel_rfl) (by kernel_rfl) (by kernel_rfl) (fun _ _ _ h => h) (Or.inl ⟨by rfl, ?_⟩) (by assumption) ?_
  rotate_left
  · (intro wz hSw; (try dsimp only at hSw); go_simp <;> with_reducible rfl)
  try simp only [Act.put, List.setIfInBounds_toArray, List.set_cons_zero, List.set_cons_succ]
  refine Rg.takeL (i := 6) (v := ?_) rfl (by kernel_rfl) (by kernel_rfl) (by kernel_rfl) (fun _ _ _ h => h) (Or.inl ⟨by rfl, ?_⟩) (by assumption) ?_
  rotate_left
  · (intro wz hSw; (try dsimp only at hSw); go_simp <;> with_reducible rfl)
  try simp only [Act.put, List.setIfInBounds_toArray, List.set_cons_zero, List.set_cons_succ]
  refine Rg.takeL (i := 7) (v := ?_) rfl (by kernel_rfl) (by kernel_rfl) (by kernel_rfl) (fun _ _ _ h => h) (Or.inl ⟨by rfl, ?_⟩) (by assumption) ?_
  rotate_left
  · (intro wz hSw; (try dsimp only at hSw); go_simp <;> with_reducible rfl)
  try simp only [Act.put, List.setIfInBounds_toArray, List.set_cons_zero, List.set_cons_succ]
  refine Rg.takeL (i := 8) (v := ?_) rfl (by kernel_rfl) (by kernel_rfl) (by kernel_rfl) (fun _ _ _ h => h) (Or.inl ⟨by rfl, ?_⟩) (by assumption) ?_
  rotate_left
  · (intro wz hSw; (have q0 := ob0 hSw.1; go_simp <;> with_reducible rfl))
  try simp only [Act.put, List.setIfInBounds_toArray, List.set_cons_zero, List.set_cons_succ]
  refine Rg.takeL (i := 9) (v := ?_) rfl (by kernel_rfl) (by kernel_rfl) (by kernel_rfl) (fun _ _ _ h => h) (Or.inl ⟨by rfl, ?_⟩) (by assumption) ?_
  rotate_left
  · (intro wz hSw; (refine op_ldK HX.out HKx.out hSw.2.1 ?_; exact ⟨_, rfl, rfl⟩))
  try simp only [Act.put, List.setIfInBounds_toArray, List.set_cons_zero, List.set_cons_succ]
  refine Rg.takeL (i := 10) (v := ?_) rfl (by kernel_rfl) (by kernel_rfl) (by kernel_rfl) (fun _ _ _ h => h) (Or.inl ⟨by rfl, ?_⟩) (by assumption) ?_
  rotate_left
  · (intro wz hSw; (refine op_lookT' (V := .agg (bodyA r.s (epN l r.s))) hSw.2.2.2 HX.out HKx.out HV2.out ?_; exact ⟨_, _, rfl, rfl, rfl⟩))
  try simp only [Act.put, List.setIfInBounds_toArray, List.set_cons_zero, List.set_cons_succ]
  refine Rg.takeL (i := 11) (v := ?_) rfl (by kernel_rfl) (by kernel_rfl) (by kernel_rfl) (fun _ _ _ h => h) (Or.inl ⟨by rfl, ?_⟩) (by assumption) ?_
  rotate_left
  · (intro wz hSw; (refine op_field_body (s := r.s) (m := epN l r.s) ?_; exact ⟨_, rfl, rfl⟩))
  try simp only [Act.put, List.setIfInBounds_toArray, List.set_cons_zero, List.set_cons_succ]
  refine Rg.takeL (i := 12) (v := ?_) rfl (by kernel_rfl) (by kernel_rfl) (by kernel_rfl) (fun _ _ _ h => h) (Or.inl ⟨by rfl, ?_⟩) (by assumption) ?_
  rotate_left
  · (intro wz hSw; (try dsimp only at hSw); go_simp <;> with_reducible rfl)
  try simp only [Act.put, List.setIfInBounds_toArray, List.set_cons_zero, List.set_cons_succ]
  refine Rg.takeL (i := 13) (v := ?_) rfl (by kernel_rfl) (by kernel_rfl) (by kernel_rfl) (fun _ _ _ h => h) (Or.inl ⟨by rfl, ?_⟩) (by assumption) ?_
  rotate_left
  · (intro wz hSw; (have q0 := HYS.out; go_simp <;> with_reducible rfl))
  try simp only [Act.put, List.setIfInBounds_toArray, List.set_cons_zero, List.set_cons_succ]
  refine Rg.takeL (i := 14) (v := ?_) rfl (by kernel_rfl) (by kernel_rfl) (by kernel_rfl) (fun _ _ _ h => h) (Or.inl ⟨by rfl, ?_⟩) (by assumption) ?_
  rotate_left
  · (intro wz hSw; (try dsimp only at hSw); go_simp <;> with_reducible rfl)
  try simp only [Act.put, List.setIfInBounds_toArray, List.set_cons_zero, List.set_cons_succ]
  refine wpAnyH_done (by kernel_rfl) ?_ _
  refine NoPanic.normal ?_
  clear hHeld
  have hb2 := (Below.refl wG.heap.size wG).drew
  have HG2 := Lib.hid (HGG.out.below hb2)
  have HO2 := Lib.hid (HO0.out.below hb2)
  have HFr2 := Lib.hid (((FrK.start (KS bb tm hm M) w).more HBG.out).more hb2)
  obtain ⟨w2, hw2⟩ : ∃ w2, w2 = wG.drew := ⟨_, rfl⟩
  rw [← hw2] at HG2 HO2 HFr2 ⊢
  clear hw2 hb2
  have HRes : Hid (FreeP bb tm hm M l tw e s w (.returned (.int .i64 7)) w2) := Lib.hid (by
    unfold FreeP
    rw [if_pos HFi.out, if_pos HFi.out]
    refine ⟨rfl, M, ?_, HFr2.out⟩
    have hg := HG2.out
    rw [← HNn.out] at hg
    exact ⟨⟨Nh, HNe.out, hg⟩, HSt.out.u, HSt.out.o, HSt.out.full⟩)
  go_wp2_with fail
  go_ret
  exact HRes.out
set_option maxHeartbeats 8000000 in
theorem free_c {s : ByteArray} (h : St bb tm hm M l tw w) (hF : Bd.Fine 40 l) (he : W64 e) {r : Rw} (hr : r ∈ l) (hre : r.e = e) (hrs : r.s = s) (hc : r.n = 1) :
    Calls Tryd.prog 23 #[.pointer (some ⟨bb, 0, none⟩), .int .i64 e, .string s, .agg (kc (sumB s))] w (FreeP bb tm hm M l tw e s w) := by
  obtain ⟨Nh, hNe, g⟩ := h.g
  have hok := hF.ok
  have HE := Lib.hid he
  have HSt := Lib.hid h
  have HX : Hid (L32 (sumB s)) := Lib.hid (sumB_length s)
  have HNe := Lib.hid hNe
  have HF := Lib.hid hF
  have hn1 : 1 ≤ r.n := hok.n r hr
  have hn2 : r.n ≤ 40 := (hF.row r hr).1
  have HCb : Hid (1 ≤ r.n ∧ r.n ≤ 40) := Lib.hid ⟨hn1, hn2⟩
  have HFi : Hid (¬ findR l e s < 0) := Lib.hid (fun q => by
    have h1 := (find_iff hok.n).1 q
    have h2 := cnt_row hok.u hr
    rw [hre, hrs] at h2
    omega)
  have HV1 : Hid ((fix_ l e (sumB s)).getD (.int .i64 0) = .int .i64 r.n) := Lib.hid (by rw [← hrs, ← hre, fix_some h.u h.o hr]; rfl)
  have HV2 : Hid ((ftx l (sumB s)).getD (bodyV eB 0) = .agg (bodyA s (epN l s))) := Lib.hid (by rw [ftx_at h.o hr hrs]; rfl)
  have HRow : Hid (r ∈ l ∧ r.e = e ∧ r.s = s) := Lib.hid ⟨hr, hre, hrs⟩
  have HNi : Hid (exN l e < maxLen) := Lib.hid (by have := ex_le l e; have := hF.len; unfold maxLen; omega)
  have hpos : 0 < exN l e := ex_pos.2 ⟨r, hr, hre⟩
  have HFr9 : Hid (freeR l e s = delR (lessL l e s) e s) := Lib.hid (free_last hok.n fun q hq k => by
    have k := hit_iff.1 k
    have := uq_eq hok.u hq hr (k.1.trans hre.symm) (k.2.trans hrs.symm)
    rw [this, hc])
  have HCc := Lib.hid hc
  rw [hc] at HV1 HCb
  obtain ⟨x, hx⟩ : ∃ x, sumB s = x := ⟨_, rfl⟩
  have HXs := Lib.hid hx
  rw [hx] at HX HV1 HV2
  obtain ⟨n, hn⟩ : ∃ n : Nat, sizeT (textsR l) = n := ⟨_, rfl⟩
  have HNn := Lib.hid hn
  rw [hn] at g
  obtain ⟨k, hk⟩ : ∃ k, kc x = k := ⟨_, rfl⟩
  have HKx := Lib.hid hk
  obtain ⟨wG, hwG⟩ : ∃ wG, wG = w.alloc (.cells k 43) := ⟨_, rfl⟩
  have hbG : Below w.heap.size w wG := by rw [hwG]; exact al1 _ _
  have HBG := Lib.hid hbG
  have HGG := Lib.hid (g.below hbG)
  have HO0 : Hid (Rg.Own wG w.heap.size k 43) := Lib.hid (by rw [hwG]; exact Rg.Own.new _ _ _)
  have HLt : Hid (∀ k, KS bb tm hm M k → k < w.heap.size) := Lib.hid g.lt
  have HWG := Lib.hid hwG
  have q1 := ob1 (g.below hbG).own
  have q2 := ob1 (g.below hbG).own
  rw [hwG] at q1
  rw [hx, hk]
  clear hx hn hk hwG hbG h hF he hok hNe g hr hre hrs hn1 hn2 hpos hc
  go_enter Tryd.func23, Tryd.ntmps23
  go_wp2_with (first
    | (at_lookup; rw [← HWG.out]; refine Rg.run rfl _ _ (op_lookH' HGG.out.hd HE.out rfl ⟨_, _, rfl, rfl, rfl⟩) ?_))
  obtain ⟨g0, hg0⟩ : ∃ g, w.heap.size = g := ⟨_, rfl⟩
  have HG0 : Hid (g0 = w.heap.size) := Lib.hid hg0.symm
  rw [hg0] at HO0 ⊢
  clear hg0 q1 q2
  refine wp_region_noPanic ?_
  refine wp_region_held_drew (S := fun wz => Rg.Own wz bb (objA tm hm n tw) 56 ∧ Rg.Own wz g0 k 43 ∧ MoS wz (M e) (fix_ l e) (exN l e) ∧ MoS wz tm (ftx l) (textsR l).length) (by kernel_rfl) (⟨HGG.out.own, HO0.out, (HGG.out.inn e).same fun _ _ => rfl, HGG.out.tx.same fun _ _ => rfl⟩) (fun hHeld => ?_)
  refine Rg.takeL (i := 0) (v := ?_) rfl (by kernel_rfl) (by kernel_rfl) (by kernel_rfl) (fun _ _ _ h => h) (Or.inl ⟨by rfl, ?_⟩) (by assumption) ?_
  rotate_left
  · (intro wz hSw; (try dsimp only at hSw); go_simp <;> with_reducible rfl)
  try simp only [Act.put, List.setIfInBounds_toArray, List.set_cons_zero, List.set_cons_succ]
  refine Rg.takeL (i := 1) (v := ?_) rfl (by kernel_rfl) (by kernel_rfl) (by kernel_rfl) (fun _ _ _ h => h) (Or.inl ⟨by rfl, ?_⟩) (by assumption) ?_
  rotate_left
  · (intro wz hSw; (refine op_ldK HX.out HKx.out hSw.2.1 ?_; exact ⟨_, rfl, rfl⟩))
  try simp only [Act.put, List.setIfInBounds_toArray, List.set_cons_zero, List.set_cons_succ]
  refine Rg.takeL (i := 2) (v := ?_) rfl (by kernel_rfl) (by kernel_rfl) (by kernel_rfl) (fun _ _ _ h => h) (Or.inl ⟨by rfl, ?_⟩) (by assumption) ?_
  rotate_left
  · (intro wz hSw; (refine op_lookI' (V := .int .i64 1) hSw.2.2.1 HX.out HKx.out HV1.out ?_; exact ⟨_, _, rfl, rfl, rfl⟩))
  try simp only [Act.put, List.setIfInBounds_toArray, List.set_cons_zero, List.set_cons_succ]
  refine Rg.takeL (i := 3) (v := ?_) rfl (by kernel_rfl) (by kernel_rfl) (by kernel_rfl) (fun _ _ _ h => h) (Or.inl ⟨by rfl, ?_⟩) (by assumption) ?_
  rotate_left
  · (intro wz hSw; (try dsimp only at hSw); go_simp <;> with_reducible rfl)
  try simp only [Act.put, List.setIfInBounds_toArray, List.set_cons_zero, List.set_cons_succ]
  refine Rg.takeL (i := 4) (v := ?_) rfl (by kernel_rfl) (by kernel_rfl) (by kernel_rfl) (fun _ _ _ h => h) (Or.inl ⟨by rfl, ?_⟩) (by assumption) ?_
  rotate_left
  · (intro wz hSw; (try dsimp only at hSw); go_simp <;> with_reducible rfl)
  try simp only [Act.put, List.setIfInBounds_toArray, List.set_cons_zero, List.set_cons_succ]
  refine Rg.takeL (i := 5) (v := ?_) rfl (by kernel_rfl) (by kernel_rfl) (by kernel_rfl) (fun _ _ _ h => h) (Or.inl ⟨by rfl, ?_⟩) (by assumption) ?_
  rotate_left
  · (intro wz hSw; (try dsimp only at hSw); go_simp <;> with_reducible rfl)
  try simp only [Act.put, List.setIfInBounds_toArray, List.set_cons_zero, List.set_cons_succ]
  refine Rg.takeL (i := 6) (v := ?_) rfl (by kernel_rfl) (by kernel_rfl) (by kernel_rfl) (fun _ _ _ h => h) (Or.inl ⟨by rfl, ?_⟩) (by assumption) ?_
  rotate_left
  · (intro wz hSw; (try dsimp only at hSw); go_simp <;> with_reducible rfl)
  try simp only [Act.put, List.setIfInBounds_toArray, List.set_cons_zero, List.set_cons_succ]
  refine Rg.takeL (i := 7) (v := ?_) rfl (by kernel_rfl) (by kernel_rfl) (by kernel_rfl) (fun _ _ _ h => h) (Or.inl ⟨by rfl, ?_⟩) (by assumption) ?_
  rotate_left
  · (intro wz hSw; (try dsimp only at hSw); go_simp <;> with_reducible rfl)
  try simp only [Act.put, List.setIfInBounds_toArray, List.set_cons_zero, List.set_cons_succ]
  refine Rg.takeL (i := 8) (v := ?_) rfl (by kernel_rfl) (by kernel_rfl) (by kernel_rfl) (fun _ _ _ h => h) (Or.inl ⟨by rfl, ?_⟩) (by assumption) ?_
  rotate_left
  · (intro wz hSw; (have q0 := ob0 hSw.1; go_simp <;> with_reducible rfl))
  try simp only [Act.put, List.setIfInBounds_toArray, List.set_cons_zero, List.set_cons_succ]
  refine Rg.takeL (i := 9) (v := ?_) rfl (by kernel_rfl) (by kernel_rfl) (by kernel_rfl) (fun _ _ _ h => h) (Or.inl ⟨by rfl, ?_⟩) (by assumption) ?_
  rotate_left
  · (intro wz hSw; (refine op_ldK HX.out HKx.out hSw.2.1 ?_; exact ⟨_, rfl, rfl⟩))
  try simp only [Act.put, List.setIfInBounds_toArray, List.set_cons_zero, List.set_cons_succ]
  refine Rg.takeL (i := 10) (v := ?_) rfl (by kernel_rfl) (by kernel_rfl) (by kernel_rfl) (fun _ _ _ h => h) (Or.inl ⟨by rfl, ?_⟩) (by assumption) ?_
  rotate_left
  · (intro wz hSw; (refine op_lookT' (V := .agg (bodyA s (epN l s))) hSw.2.2.2 HX.out HKx.out HV2.out ?_; exact ⟨_, _, rfl, rfl, rfl⟩))
  try simp only [Act.put, List.setIfInBounds_toArray, List.set_cons_zero, List.set_cons_succ]
  refine Rg.takeL (i := 11) (v := ?_) rfl (by kernel_rfl) (by kernel_rfl) (by kernel_rfl) (fun _ _ _ h => h) (Or.inl ⟨by rfl, ?_⟩) (by assumption) ?_
  rotate_left
  · (intro wz hSw; (refine op_field_body (s := s) (m := epN l s) ?_; exact ⟨_, rfl, rfl⟩))
  try simp only [Act.put, List.setIfInBounds_toArray, List.set_cons_zero, List.set_cons_succ]
  refine Rg.takeL (i := 12) (v := ?_) rfl (by kernel_rfl) (by kernel_rfl) (by kernel_rfl) (fun _ _ _ h => h) (Or.inl ⟨by rfl, ?_⟩) (by assumption) ?_
  rotate_left
  · (intro wz hSw; (try dsimp only at hSw); go_simp <;> with_reducible rfl)
  try simp only [Act.put, List.setIfInBounds_toArray, List.set_cons_zero, List.set_cons_succ]
  refine Rg.takeL (i := 13) (v := ?_) rfl (by kernel_rfl) (by kernel_rfl) (by kernel_rfl) (fun _ _ _ h => h) (Or.inl ⟨by rfl, ?_⟩) (by assumption) ?_
  rotate_left
  · (intro wz hSw; (try dsimp only at hSw); go_simp <;> with_reducible rfl)
  try simp only [Act.put, List.setIfInBounds_toArray, List.set_cons_zero, List.set_cons_succ]
  refine Rg.takeL (i := 14) (v := ?_) rfl (by kernel_rfl) (by kernel_rfl) (by kernel_rfl) (fun _ _ _ h => h) (Or.inl ⟨by rfl, ?_⟩) (by assumption) ?_
  rotate_left
  · (intro wz hSw; (try dsimp only at hSw); go_simp <;> with_reducible rfl)
  try simp only [Act.put, List.setIfInBounds_toArray, List.set_cons_zero, List.set_cons_succ]
  refine wpAnyH_done (by kernel_rfl) ?_ _
  refine NoPanic.normal ?_
  clear hHeld
  have hb2 := (Below.refl wG.heap.size wG).drew
  have HG2 := Lib.hid (HGG.out.below hb2)
  have HO2 := Lib.hid (HO0.out.below hb2)
  have HFr2 := Lib.hid (((FrK.start (KS bb tm hm M) w).more HBG.out).more hb2)
  obtain ⟨w2, hw2⟩ : ∃ w2, w2 = wG.drew := ⟨_, rfl⟩
  rw [← hw2] at HG2 HO2 HFr2 ⊢
  clear hw2 hb2
  have HPs : Hid (0 < exN l e) := Lib.hid (ex_pos.2 ⟨r, HRow.out.1, HRow.out.2.1⟩)
  have HW1 : Hid (IntKind.i64.wrap (1 - 1) = 1 - 1) := Lib.hid (by have := HCb.out; simp only [IntKind.wrap_i64, wrap64]; omega)
  have HW2 : Hid (wrap64 (1 - 1) = 1 - 1) := Lib.hid (by have := HCb.out; unfold wrap64; omega)
  cases hM : M e with
  | none => exact absurd (ex_none HG2.out hM).2 (by have := HPs.out; omega)
  | some mm =>
    have HMm := Lib.hid hM
    have HIm : Hid (MoS w2 (some mm) (fix_ l e) (exN l e)) := Lib.hid (by have := HG2.out.inn e; rwa [hM] at this)
    have HKm : Hid (KS bb tm hm M mm) := Lib.hid (.inr (.inr (.inr ⟨e, hM⟩)))
    have HLm : Hid (mm < w.heap.size) := Lib.hid (HLt.out mm HKm.out)
    clear hM
    go_wp2_with fail
    refine wp_region_noPanic ?_
    refine wp_region_held_drew (S := fun wz => Rg.Own wz g0 k 43) (by kernel_rfl) (HO2.out) (fun hHeld => ?_)
    refine Rg.takeL (i := 0) (v := ?_) rfl (by kernel_rfl) (by kernel_rfl) (by kernel_rfl) (fun _ _ _ h => h) (Or.inl ⟨by rfl, ?_⟩) (by assumption) ?_
    rotate_left
    · (intro wz hSw; (try dsimp only at hSw); go_simp <;> with_reducible rfl)
    try simp only [Act.put, List.setIfInBounds_toArray, List.set_cons_zero, List.set_cons_succ]
    refine Rg.takeL (i := 1) (v := ?_) rfl (by kernel_rfl) (by kernel_rfl) (by kernel_rfl) (fun _ _ _ h => h) (Or.inl ⟨by rfl, ?_⟩) (by assumption) ?_
    rotate_left
    · (intro wz hSw; (refine op_ldK HX.out HKx.out hSw ?_; exact ⟨_, rfl, rfl⟩))
    try simp only [Act.put, List.setIfInBounds_toArray, List.set_cons_zero, List.set_cons_succ]
    refine wpAnyH_ready (rs := [2, 4]) (by kernel_rfl) (by simp) ?_
    refine Rg.readyC (i := 2) rfl (fun K hK => ?_) (Rg.readyL (i := 4) rfl (fun K hK => ?_))
    · refine Rg.meet (by rfl) _ _ (op_lookI' (V := .int .i64 1) (HIm.out.same (w' := w2.drew) fun _ _ => rfl) HX.out HKx.out HV1.out ?_) ?_
      · exact ⟨_, _, rfl, rfl, rfl⟩
      refine hK.out _ _ ?_ (fun hHeld => ?_)
      · exact hHeld
      clear hK K
      try simp only [Act.put, List.setIfInBounds_toArray, List.set_cons_zero, List.set_cons_succ]
      refine Rg.takeL (i := 3) (v := ?_) rfl (by kernel_rfl) (by kernel_rfl) (by kernel_rfl) (fun _ _ _ h => h) (Or.inl ⟨by rfl, ?_⟩) (by assumption) ?_
      rotate_left
      · (intro wz hSw; (have q0 := HW1.out; have q9 := HW2.out; go_simp <;> with_reducible rfl))
      try simp only [Act.put, List.setIfInBounds_toArray, List.set_cons_zero, List.set_cons_succ]
      refine wpAnyH_ready (rs := [4]) (by kernel_rfl) (by simp) ?_
      refine Rg.readyL (i := 4) rfl (fun K hK => ?_)
      refine elimMe (by rfl) (run_entry (HIm.out.same (w' := w2.drew) fun _ _ => rfl) HNi.out HX.out HKx.out HV1.out ⟨_, _, rfl, rfl, rfl⟩) ?_
      rintro we st ⟨hm6, hu6, hp6⟩
      have HP6 := Lib.hid hp6
      have HU6 := Lib.hid (upd_drew hu6)
      have HM6 := Lib.hid hm6
      refine hK.out _ _ ?_ (fun hHeld => ?_)
      · exact HO2.out.upd HU6.out (fun e => by have := HLm.out; have := HG0.out; omega)
      clear hK K hm6 hu6 hp6
      try simp only [Act.put, List.setIfInBounds_toArray, List.set_cons_zero, List.set_cons_succ]
      refine Rg.takeL (i := 5) (v := ?_) rfl (by kernel_rfl) (by kernel_rfl) (by kernel_rfl) (fun _ _ _ h => h) (Or.inl ⟨by rfl, ?_⟩) (by assumption) ?_
      rotate_left
      · (intro wz hSw; (try dsimp only at hSw); go_simp <;> with_reducible rfl)
      try simp only [Act.put, List.setIfInBounds_toArray, List.set_cons_zero, List.set_cons_succ]
      refine wpAnyH_ready (rs := [6]) (by kernel_rfl) (by simp) ?_
      refine Rg.readyL (i := 6) rfl (fun K hK => ?_)
      refine elimM (by rfl) (run_estore HP6.out rfl (.int .i64 (1 - 1)) ⟨_, _, _, rfl, rfl, rfl, rfl⟩) ?_
      rintro w9 ⟨hm7, hu7⟩
      have HU7 : Hid (Rg.Upd w2 mm w9) := Lib.hid (upd_trans HU6.out hu7)
      have HM7 := Lib.hid hm7
      refine hK.out _ _ ?_ (fun hHeld => ?_)
      · exact HO2.out.upd HU7.out (fun e => by have := HLm.out; have := HG0.out; omega)
      clear hK K hm7 hu7
      try simp only [Act.put, List.setIfInBounds_toArray, List.set_cons_zero, List.set_cons_succ]
      refine wpAnyH_done (by kernel_rfl) ?_ _
      refine NoPanic.normal ?_
      clear hHeld
      have HG9 := Lib.hid (HG2.out.sums HMm.out HU7.out (by rw [HMm.out]; exact HM7.out))
      have HO9 := Lib.hid (HO2.out.upd HU7.out (fun e => by have := HLm.out; have := HG0.out; omega))
      have HFr99 := Lib.hid (HFr2.out.upd HU7.out (.inl HKm.out))
      have HMo : Hid (MoS w9 (some mm) (setF (fix_ l e) x (some (.int .i64 (1 - 1)))) (more (fix_ l e) x (exN l e))) := HM7
      clear HM7 HU7 HU6 HP6 HM6
      have HSl : Hid (St bb tm hm M (lessL l e s) tw w9) := Lib.hid (by
        obtain ⟨h1, h2, h3⟩ := HRow.out
        have hg := HG9.out
        rw [← HXs.out] at hg
        exact st_less HSt.out.u HSt.out.o HSt.out.full h1 h2 h3 HCc.out HNe.out (by rw [HNn.out]) hg)
      obtain ⟨Nh9, hNe9, hg9⟩ := HSl.out.g
      have HLr := Lib.hid (leaver_any hg9 HE.out)
      clear hNe9 hg9
      go_wp2_with (first
        | (refine Rg.run rfl _ _ (op_ldK HX.out HKx.out HO9.out ⟨_, rfl, rfl⟩) ?_)
        | (at_lookup; refine Rg.run rfl _ _ (op_lookI' (V := .int .i64 0) HMo.out HX.out HKx.out (by first | (rw [setF_at]; done) | (rw [setF_at]; rfl)) ⟨_, _, rfl, rfl, rfl⟩) ?_))
      refine HLr.out.mono ?_
      rintro e9 wa ⟨c1, c2, c3, rfl, hlv, hcs, hba⟩
      have HLa : Hid (∃ m, M e = some m ∧ Calls Tryd.prog 35 #[.agg k, .pointer (some ⟨c1, 0, none⟩), .pointer (some ⟨c2, 0, none⟩), .pointer (some ⟨c3, 0, none⟩)] wa (LeaveP bb tm hm M (lessL l e s) tw e s m c1 c2 c3 wa)) := Lib.hid (by
        obtain ⟨h1, h2, h3⟩ := HRow.out
        have hlt := HSl.out.lt
        have := leave_any (HSl.out.below hba) (s := s) (by have := has_of (less_mem h1); rw [h2, h3] at this; exact this) HE.out (by rw [less_len]; exact HF.out.len) (less_row (p := fun s => s.size ≤ 200) fun r hr => (HF.out.row r hr).2.2.1) hlv (fun k hk g => by have := hlt k g; rcases hk with hk | hk | hk <;> omega)
        rwa [HXs.out, HKx.out] at this)
      obtain ⟨m9, _, hla⟩ := HLa.out
      have HLq := Lib.hid hla
      have HFra := Lib.hid (HFr99.out.more hba)
      have HOa := Lib.hid (HO9.out.below hba)
      clear hla hlv hcs hba HLr HLa
      go_wp2_with (first
        | (refine Rg.run rfl _ _ (op_ldK HX.out HKx.out HOa.out ⟨_, rfl, rfl⟩) ?_))
      refine HLq.out.mono ?_
      rintro e9 wb ⟨rfl, ⟨M9, hs9, _, _, hf9⟩, _, _⟩
      have HRes : Hid (FreeP bb tm hm M l tw e s w (.returned (.int .i64 0)) wb) := Lib.hid (by
        unfold FreeP
        have hfi : ¬ findR l e s < 0 := by have := HFi.out; omega
        rw [if_neg hfi, if_neg hfi, HFr9.out]
        exact ⟨rfl, M9, hs9, HFra.out.trans hf9⟩)
      clear hs9 hf9 HLq
      go_wp2_with fail
      go_ret
      exact HRes.out
    · refine elimMe (by rfl) (run_entry (HIm.out.same (w' := w2.drew) fun _ _ => rfl) HNi.out HX.out HKx.out HV1.out ⟨_, _, rfl, rfl, rfl⟩) ?_
      rintro we st ⟨hm6, hu6, hp6⟩
      have HP6 := Lib.hid hp6
      have HU6 := Lib.hid (upd_drew hu6)
      have HM6 := Lib.hid hm6
      refine hK.out _ _ ?_ (fun hHeld => ?_)
      · exact HO2.out.upd HU6.out (fun e => by have := HLm.out; have := HG0.out; omega)
      clear hK K hm6 hu6 hp6
      try simp only [Act.put, List.setIfInBounds_toArray, List.set_cons_zero, List.set_cons_succ]
      refine Rg.takeL (i := 5) (v := ?_) rfl (by kernel_rfl) (by kernel_rfl) (by kernel_rfl) (fun _ _ _ h => h) (Or.inl ⟨by rfl, ?_⟩) (by assumption) ?_
      rotate_left
      · (intro wz hSw; (try dsimp only at hSw); go_simp <;> with_reducible rfl)
      try simp only [Act.put, List.setIfInBounds_toArray, List.set_cons_zero, List.set_cons_succ]
      refine wpAnyH_ready (rs := [2]) (by kernel_rfl) (by simp) ?_
      refine Rg.readyL (i := 2) rfl (fun K hK => ?_)
      refine Rg.meet (by rfl) _ _ (op_lookI' (V := .int .i64 1) HM6.out HX.out HKx.out (by first | (rw [setF_at]; done) | (rw [setF_at]; rfl)) ?_) ?_
      · exact ⟨_, _, rfl, rfl, rfl⟩
      refine hK.out _ _ ?_ (fun hHeld => ?_)
      · exact hHeld
      clear hK K
      try simp only [Act.put, List.setIfInBounds_toArray, List.set_cons_zero, List.set_cons_succ]
      refine Rg.takeL (i := 3) (v := ?_) rfl (by kernel_rfl) (by kernel_rfl) (by kernel_rfl) (fun _ _ _ h => h) (Or.inl ⟨by rfl, ?_⟩) (by assumption) ?_
      rotate_left
      · (intro wz hSw; (have q0 := HW1.out; have q9 := HW2.out; go_simp <;> with_reducible rfl))
      try simp only [Act.put, List.setIfInBounds_toArray, List.set_cons_zero, List.set_cons_succ]
      refine wpAnyH_ready (rs := [6]) (by kernel_rfl) (by simp) ?_
      refine Rg.readyL (i := 6) rfl (fun K hK => ?_)
      refine elimM (by rfl) (run_estore HP6.out rfl (.int .i64 (1 - 1)) ⟨_, _, _, rfl, rfl, rfl, rfl⟩) ?_
      rintro w9 ⟨hm7, hu7⟩
      have HU7 : Hid (Rg.Upd w2 mm w9) := Lib.hid (upd_trans HU6.out hu7)
      have HM7 := Lib.hid hm7
      refine hK.out _ _ ?_ (fun hHeld => ?_)
      · exact HO2.out.upd HU7.out (fun e => by have := HLm.out; have := HG0.out; omega)
      clear hK K hm7 hu7
      try simp only [Act.put, List.setIfInBounds_toArray, List.set_cons_zero, List.set_cons_succ]
      refine wpAnyH_done (by kernel_rfl) ?_ _
      refine NoPanic.normal ?_
      clear hHeld
      have HG9 := Lib.hid (HG2.out.sums HMm.out HU7.out (by rw [HMm.out]; exact HM7.out))
      have HO9 := Lib.hid (HO2.out.upd HU7.out (fun e => by have := HLm.out; have := HG0.out; omega))
      have HFr99 := Lib.hid (HFr2.out.upd HU7.out (.inl HKm.out))
      have HMo : Hid (MoS w9 (some mm) (setF (fix_ l e) x (some (.int .i64 (1 - 1)))) (more (fix_ l e) x (exN l e))) := HM7
      clear HM7 HU7 HU6 HP6 HM6
      have HSl : Hid (St bb tm hm M (lessL l e s) tw w9) := Lib.hid (by
        obtain ⟨h1, h2, h3⟩ := HRow.out
        have hg := HG9.out
        rw [← HXs.out] at hg
        exact st_less HSt.out.u HSt.out.o HSt.out.full h1 h2 h3 HCc.out HNe.out (by rw [HNn.out]) hg)
      obtain ⟨Nh9, hNe9, hg9⟩ := HSl.out.g
      have HLr := Lib.hid (leaver_any hg9 HE.out)
      clear hNe9 hg9
      go_wp2_with (first
        | (refine Rg.run rfl _ _ (op_ldK HX.out HKx.out HO9.out ⟨_, rfl, rfl⟩) ?_)
        | (at_lookup; refine Rg.run rfl _ _ (op_lookI' (V := .int .i64 0) HMo.out HX.out HKx.out (by first | (rw [setF_at]; done) | (rw [setF_at]; rfl)) ⟨_, _, rfl, rfl, rfl⟩) ?_))
      refine HLr.out.mono ?_
      rintro e9 wa ⟨c1, c2, c3, rfl, hlv, hcs, hba⟩
      have HLa : Hid (∃ m, M e = some m ∧ Calls Tryd.prog 35 #[.agg k, .pointer (some ⟨c1, 0, none⟩), .pointer (some ⟨c2, 0, none⟩), .pointer (some ⟨c3, 0, none⟩)] wa (LeaveP bb tm hm M (lessL l e s) tw e s m c1 c2 c3 wa)) := Lib.hid (by
        obtain ⟨h1, h2, h3⟩ := HRow.out
        have hlt := HSl.out.lt
        have := leave_any (HSl.out.below hba) (s := s) (by have := has_of (less_mem h1); rw [h2, h3] at this; exact this) HE.out (by rw [less_len]; exact HF.out.len) (less_row (p := fun s => s.size ≤ 200) fun r hr => (HF.out.row r hr).2.2.1) hlv (fun k hk g => by have := hlt k g; rcases hk with hk | hk | hk <;> omega)
        rwa [HXs.out, HKx.out] at this)
      obtain ⟨m9, _, hla⟩ := HLa.out
      have HLq := Lib.hid hla
      have HFra := Lib.hid (HFr99.out.more hba)
      have HOa := Lib.hid (HO9.out.below hba)
      clear hla hlv hcs hba HLr HLa
      go_wp2_with (first
        | (refine Rg.run rfl _ _ (op_ldK HX.out HKx.out HOa.out ⟨_, rfl, rfl⟩) ?_))
      refine HLq.out.mono ?_
      rintro e9 wb ⟨rfl, ⟨M9, hs9, _, _, hf9⟩, _, _⟩
      have HRes : Hid (FreeP bb tm hm M l tw e s w (.returned (.int .i64 0)) wb) := Lib.hid (by
        unfold FreeP
        have hfi : ¬ findR l e s < 0 := by have := HFi.out; omega
        rw [if_neg hfi, if_neg hfi, HFr9.out]
        exact ⟨rfl, M9, hs9, HFra.out.trans hf9⟩)
      clear hs9 hf9 HLq
      go_wp2_with fail
      go_ret
      exact HRes.out
set_option maxHeartbeats 8000000 in
theorem free_d {s : ByteArray} (h : St bb tm hm M l tw w) (hF : Bd.Fine 40 l) (he : W64 e) {r : Rw} (hr : r ∈ l) (hre : r.e = e) (hrs : r.s = s) (hc : r.n ≠ 1) :
    Calls Tryd.prog 23 #[.pointer (some ⟨bb, 0, none⟩), .int .i64 e, .string s, .agg (kc (sumB s))] w (FreeP bb tm hm M l tw e s w) := by
  obtain ⟨Nh, hNe, g⟩ := h.g
  have hok := hF.ok
  have HE := Lib.hid he
  have HSt := Lib.hid h
  have HX : Hid (L32 (sumB s)) := Lib.hid (sumB_length s)
  have HNe := Lib.hid hNe
  have HF := Lib.hid hF
  have hn1 : 1 ≤ r.n := hok.n r hr
  have hn2 : r.n ≤ 40 := (hF.row r hr).1
  have HCb : Hid (1 ≤ r.n ∧ r.n ≤ 40) := Lib.hid ⟨hn1, hn2⟩
  have HFi : Hid (¬ findR l e s < 0) := Lib.hid (fun q => by
    have h1 := (find_iff hok.n).1 q
    have h2 := cnt_row hok.u hr
    rw [hre, hrs] at h2
    omega)
  have HV1 : Hid ((fix_ l e (sumB s)).getD (.int .i64 0) = .int .i64 r.n) := Lib.hid (by rw [← hrs, ← hre, fix_some h.u h.o hr]; rfl)
  have HV2 : Hid ((ftx l (sumB s)).getD (bodyV eB 0) = .agg (bodyA s (epN l s))) := Lib.hid (by rw [ftx_at h.o hr hrs]; rfl)
  have HRow : Hid (r ∈ l ∧ r.e = e ∧ r.s = s) := Lib.hid ⟨hr, hre, hrs⟩
  have HNi : Hid (exN l e < maxLen) := Lib.hid (by have := ex_le l e; have := hF.len; unfold maxLen; omega)
  have hpos : 0 < exN l e := ex_pos.2 ⟨r, hr, hre⟩
  have HFr9 : Hid (freeR l e s = lessL l e s) := Lib.hid (free_more hok.n fun q hq k => by
    have k := hit_iff.1 k
    have := uq_eq hok.u hq hr (k.1.trans hre.symm) (k.2.trans hrs.symm)
    rw [this]
    exact hc)
  have hcN : r.n ≠ 0 := by omega
  have HC0 : Hid ((r.n == 0) = false) := Lib.hid (by rw [beq_eq_false_iff_ne]; omega)
  have HC1 : Hid (decide (r.n = 0) = false) := Lib.hid (decide_eq_false (by omega))
  have HD0 : Hid ((r.n - 1 == 0) = false ∧ decide (r.n - 1 = 0) = false) := Lib.hid ⟨by rw [beq_eq_false_iff_ne]; omega, decide_eq_false (by omega)⟩
  obtain ⟨c, hc9⟩ : ∃ c, r.n = c := ⟨_, rfl⟩
  have HRc := Lib.hid hc9
  rw [hc9] at HV1 HC0 HC1 HCb HD0
  obtain ⟨x, hx⟩ : ∃ x, sumB s = x := ⟨_, rfl⟩
  have HXs := Lib.hid hx
  rw [hx] at HX HV1 HV2
  obtain ⟨n, hn⟩ : ∃ n : Nat, sizeT (textsR l) = n := ⟨_, rfl⟩
  have HNn := Lib.hid hn
  rw [hn] at g
  obtain ⟨k, hk⟩ : ∃ k, kc x = k := ⟨_, rfl⟩
  have HKx := Lib.hid hk
  obtain ⟨wG, hwG⟩ : ∃ wG, wG = w.alloc (.cells k 43) := ⟨_, rfl⟩
  have hbG : Below w.heap.size w wG := by rw [hwG]; exact al1 _ _
  have HBG := Lib.hid hbG
  have HGG := Lib.hid (g.below hbG)
  have HO0 : Hid (Rg.Own wG w.heap.size k 43) := Lib.hid (by rw [hwG]; exact Rg.Own.new _ _ _)
  have HLt : Hid (∀ k, KS bb tm hm M k → k < w.heap.size) := Lib.hid g.lt
  have HWG := Lib.hid hwG
  have q1 := ob1 (g.below hbG).own
  have q2 := ob1 (g.below hbG).own
  rw [hwG] at q1
  rw [hx, hk]
  clear hx hn hk hwG hbG h hF he hok hNe g hr hre hrs hn1 hn2 hpos hc9 hcN hc
  go_enter Tryd.func23, Tryd.ntmps23
  go_wp2_with (first
    | (at_lookup; rw [← HWG.out]; refine Rg.run rfl _ _ (op_lookH' HGG.out.hd HE.out rfl ⟨_, _, rfl, rfl, rfl⟩) ?_))
  obtain ⟨g0, hg0⟩ : ∃ g, w.heap.size = g := ⟨_, rfl⟩
  have HG0 : Hid (g0 = w.heap.size) := Lib.hid hg0.symm
  rw [hg0] at HO0 ⊢
  clear hg0 q1 q2
  refine wp_region_noPanic ?_
  refine wp_region_held_drew (S := fun wz => Rg.Own wz bb (objA tm hm n tw) 56 ∧ Rg.Own wz g0 k 43 ∧ MoS wz (M e) (fix_ l e) (exN l e) ∧ MoS wz tm (ftx l) (textsR l).length) (by kernel_rfl) (⟨HGG.out.own, HO0.out, (HGG.out.inn e).same fun _ _ => rfl, HGG.out.tx.same fun _ _ => rfl⟩) (fun hHeld => ?_)
  refine Rg.takeL (i := 0) (v := ?_) rfl (by kernel_rfl) (by kernel_rfl) (by kernel_rfl) (fun _ _ _ h => h) (Or.inl ⟨by rfl, ?_⟩) (by assumption) ?_
  rotate_left
  · (intro wz hSw; (try dsimp only at hSw); go_simp <;> with_reducible rfl)
  try simp only [Act.put, List.setIfInBounds_toArray, List.set_cons_zero, List.set_cons_succ]
  refine Rg.takeL (i := 1) (v := ?_) rfl (by kernel_rfl) (by kernel_rfl) (by kernel_rfl) (fun _ _ _ h => h) (Or.inl ⟨by rfl, ?_⟩) (by assumption) ?_
  rotate_left
  · (intro wz hSw; (refine op_ldK HX.out HKx.out hSw.2.1 ?_; exact ⟨_, rfl, rfl⟩))
  try simp only [Act.put, List.setIfInBounds_toArray, List.set_cons_zero, List.set_cons_succ]
  refine Rg.takeL (i := 2) (v := ?_) rfl (by kernel_rfl) (by kernel_rfl) (by kernel_rfl) (fun _ _ _ h => h) (Or.inl ⟨by rfl, ?_⟩) (by assumption) ?_
  rotate_left
  · (intro wz hSw; (refine op_lookI' (V := .int .i64 c) hSw.2.2.1 HX.out HKx.out HV1.out ?_; exact ⟨_, _, rfl, rfl, rfl⟩))
  try simp only [Act.put, List.setIfInBounds_toArray, List.set_cons_zero, List.set_cons_succ]
  refine Rg.takeL (i := 3) (v := ?_) rfl (by kernel_rfl) (by kernel_rfl) (by kernel_rfl) (fun _ _ _ h => h) (Or.inl ⟨by rfl, ?_⟩) (by assumption) ?_
  rotate_left
  · (intro wz hSw; (have q0 := HC0.out; have q9 := HC1.out; go_simp <;> with_reducible rfl))
  try simp only [Act.put, List.setIfInBounds_toArray, List.set_cons_zero, List.set_cons_succ]
  refine Rg.takeL (i := 4) (v := ?_) rfl (by kernel_rfl) (by kernel_rfl) (by kernel_rfl) (fun _ _ _ h => h) (Or.inl ⟨by rfl, ?_⟩) (by assumption) ?_
  rotate_left
  · (intro wz hSw; (try dsimp only at hSw); go_simp <;> with_reducible rfl)
  try simp only [Act.put, List.setIfInBounds_toArray, List.set_cons_zero, List.set_cons_succ]
  refine Rg.takeL (i := 5) (v := ?_) rfl (by kernel_rfl) (by kernel_rfl) (by kernel_rfl) (fun _ _ _ h => h) (Or.inl ⟨by rfl, ?_⟩) (by assumption) ?_
  rotate_left
  · (intro wz hSw; (try dsimp only at hSw); go_simp <;> with_reducible rfl)
  try simp only [Act.put, List.setIfInBounds_toArray, List.set_cons_zero, List.set_cons_succ]
  refine Rg.takeL (i := 6) (v := ?_) rfl (by kernel_rfl) (by kernel_rfl) (by kernel_rfl) (fun _ _ _ h => h) (Or.inl ⟨by rfl, ?_⟩) (by assumption) ?_
  rotate_left
  · (intro wz hSw; (try dsimp only at hSw); go_simp <;> with_reducible rfl)
  try simp only [Act.put, List.setIfInBounds_toArray, List.set_cons_zero, List.set_cons_succ]
  refine Rg.takeL (i := 7) (v := ?_) rfl (by kernel_rfl) (by kernel_rfl) (by kernel_rfl) (fun _ _ _ h => h) (Or.inl ⟨by rfl, ?_⟩) (by assumption) ?_
  rotate_left
  · (intro wz hSw; (try dsimp only at hSw); go_simp <;> with_reducible rfl)
  try simp only [Act.put, List.setIfInBounds_toArray, List.set_cons_zero, List.set_cons_succ]
  refine Rg.takeL (i := 8) (v := ?_) rfl (by kernel_rfl) (by kernel_rfl) (by kernel_rfl) (fun _ _ _ h => h) (Or.inl ⟨by rfl, ?_⟩) (by assumption) ?_
  rotate_left
  · (intro wz hSw; (have q0 := ob0 hSw.1; go_simp <;> with_reducible rfl))
  try simp only [Act.put, List.setIfInBounds_toArray, List.set_cons_zero, List.set_cons_succ]
  refine Rg.takeL (i := 9) (v := ?_) rfl (by kernel_rfl) (by kernel_rfl) (by kernel_rfl) (fun _ _ _ h => h) (Or.inl ⟨by rfl, ?_⟩) (by assumption) ?_
  rotate_left
  · (intro wz hSw; (refine op_ldK HX.out HKx.out hSw.2.1 ?_; exact ⟨_, rfl, rfl⟩))
  try simp only [Act.put, List.setIfInBounds_toArray, List.set_cons_zero, List.set_cons_succ]
  refine Rg.takeL (i := 10) (v := ?_) rfl (by kernel_rfl) (by kernel_rfl) (by kernel_rfl) (fun _ _ _ h => h) (Or.inl ⟨by rfl, ?_⟩) (by assumption) ?_
  rotate_left
  · (intro wz hSw; (refine op_lookT' (V := .agg (bodyA s (epN l s))) hSw.2.2.2 HX.out HKx.out HV2.out ?_; exact ⟨_, _, rfl, rfl, rfl⟩))
  try simp only [Act.put, List.setIfInBounds_toArray, List.set_cons_zero, List.set_cons_succ]
  refine Rg.takeL (i := 11) (v := ?_) rfl (by kernel_rfl) (by kernel_rfl) (by kernel_rfl) (fun _ _ _ h => h) (Or.inl ⟨by rfl, ?_⟩) (by assumption) ?_
  rotate_left
  · (intro wz hSw; (refine op_field_body (s := s) (m := epN l s) ?_; exact ⟨_, rfl, rfl⟩))
  try simp only [Act.put, List.setIfInBounds_toArray, List.set_cons_zero, List.set_cons_succ]
  refine Rg.takeL (i := 12) (v := ?_) rfl (by kernel_rfl) (by kernel_rfl) (by kernel_rfl) (fun _ _ _ h => h) (Or.inl ⟨by rfl, ?_⟩) (by assumption) ?_
  rotate_left
  · (intro wz hSw; (try dsimp only at hSw); go_simp <;> with_reducible rfl)
  try simp only [Act.put, List.setIfInBounds_toArray, List.set_cons_zero, List.set_cons_succ]
  refine Rg.takeL (i := 13) (v := ?_) rfl (by kernel_rfl) (by kernel_rfl) (by kernel_rfl) (fun _ _ _ h => h) (Or.inl ⟨by rfl, ?_⟩) (by assumption) ?_
  rotate_left
  · (intro wz hSw; (try dsimp only at hSw); go_simp <;> with_reducible rfl)
  try simp only [Act.put, List.setIfInBounds_toArray, List.set_cons_zero, List.set_cons_succ]
  refine Rg.takeL (i := 14) (v := ?_) rfl (by kernel_rfl) (by kernel_rfl) (by kernel_rfl) (fun _ _ _ h => h) (Or.inl ⟨by rfl, ?_⟩) (by assumption) ?_
  rotate_left
  · (intro wz hSw; (try dsimp only at hSw); go_simp <;> with_reducible rfl)
  try simp only [Act.put, List.setIfInBounds_toArray, List.set_cons_zero, List.set_cons_succ]
  refine wpAnyH_done (by kernel_rfl) ?_ _
  refine NoPanic.normal ?_
  clear hHeld
  have hb2 := (Below.refl wG.heap.size wG).drew
  have HG2 := Lib.hid (HGG.out.below hb2)
  have HO2 := Lib.hid (HO0.out.below hb2)
  have HFr2 := Lib.hid (((FrK.start (KS bb tm hm M) w).more HBG.out).more hb2)
  obtain ⟨w2, hw2⟩ : ∃ w2, w2 = wG.drew := ⟨_, rfl⟩
  rw [← hw2] at HG2 HO2 HFr2 ⊢
  clear hw2 hb2
  have HPs : Hid (0 < exN l e) := Lib.hid (ex_pos.2 ⟨r, HRow.out.1, HRow.out.2.1⟩)
  have HW1 : Hid (IntKind.i64.wrap (c - 1) = c - 1) := Lib.hid (by have := HCb.out; simp only [IntKind.wrap_i64, wrap64]; omega)
  have HW2 : Hid (wrap64 (c - 1) = c - 1) := Lib.hid (by have := HCb.out; unfold wrap64; omega)
  cases hM : M e with
  | none => exact absurd (ex_none HG2.out hM).2 (by have := HPs.out; omega)
  | some mm =>
    have HMm := Lib.hid hM
    have HIm : Hid (MoS w2 (some mm) (fix_ l e) (exN l e)) := Lib.hid (by have := HG2.out.inn e; rwa [hM] at this)
    have HKm : Hid (KS bb tm hm M mm) := Lib.hid (.inr (.inr (.inr ⟨e, hM⟩)))
    have HLm : Hid (mm < w.heap.size) := Lib.hid (HLt.out mm HKm.out)
    clear hM
    go_wp2_with fail
    refine wp_region_noPanic ?_
    refine wp_region_held_drew (S := fun wz => Rg.Own wz g0 k 43) (by kernel_rfl) (HO2.out) (fun hHeld => ?_)
    refine Rg.takeL (i := 0) (v := ?_) rfl (by kernel_rfl) (by kernel_rfl) (by kernel_rfl) (fun _ _ _ h => h) (Or.inl ⟨by rfl, ?_⟩) (by assumption) ?_
    rotate_left
    · (intro wz hSw; (try dsimp only at hSw); go_simp <;> with_reducible rfl)
    try simp only [Act.put, List.setIfInBounds_toArray, List.set_cons_zero, List.set_cons_succ]
    refine Rg.takeL (i := 1) (v := ?_) rfl (by kernel_rfl) (by kernel_rfl) (by kernel_rfl) (fun _ _ _ h => h) (Or.inl ⟨by rfl, ?_⟩) (by assumption) ?_
    rotate_left
    · (intro wz hSw; (refine op_ldK HX.out HKx.out hSw ?_; exact ⟨_, rfl, rfl⟩))
    try simp only [Act.put, List.setIfInBounds_toArray, List.set_cons_zero, List.set_cons_succ]
    refine wpAnyH_ready (rs := [2, 4]) (by kernel_rfl) (by simp) ?_
    refine Rg.readyC (i := 2) rfl (fun K hK => ?_) (Rg.readyL (i := 4) rfl (fun K hK => ?_))
    · refine Rg.meet (by rfl) _ _ (op_lookI' (V := .int .i64 c) (HIm.out.same (w' := w2.drew) fun _ _ => rfl) HX.out HKx.out HV1.out ?_) ?_
      · exact ⟨_, _, rfl, rfl, rfl⟩
      refine hK.out _ _ ?_ (fun hHeld => ?_)
      · exact hHeld
      clear hK K
      try simp only [Act.put, List.setIfInBounds_toArray, List.set_cons_zero, List.set_cons_succ]
      refine Rg.takeL (i := 3) (v := ?_) rfl (by kernel_rfl) (by kernel_rfl) (by kernel_rfl) (fun _ _ _ h => h) (Or.inl ⟨by rfl, ?_⟩) (by assumption) ?_
      rotate_left
      · (intro wz hSw; (have q0 := HW1.out; have q9 := HW2.out; go_simp <;> with_reducible rfl))
      try simp only [Act.put, List.setIfInBounds_toArray, List.set_cons_zero, List.set_cons_succ]
      refine wpAnyH_ready (rs := [4]) (by kernel_rfl) (by simp) ?_
      refine Rg.readyL (i := 4) rfl (fun K hK => ?_)
      refine elimMe (by rfl) (run_entry (HIm.out.same (w' := w2.drew) fun _ _ => rfl) HNi.out HX.out HKx.out HV1.out ⟨_, _, rfl, rfl, rfl⟩) ?_
      rintro we st ⟨hm6, hu6, hp6⟩
      have HP6 := Lib.hid hp6
      have HU6 := Lib.hid (upd_drew hu6)
      have HM6 := Lib.hid hm6
      refine hK.out _ _ ?_ (fun hHeld => ?_)
      · exact HO2.out.upd HU6.out (fun e => by have := HLm.out; have := HG0.out; omega)
      clear hK K hm6 hu6 hp6
      try simp only [Act.put, List.setIfInBounds_toArray, List.set_cons_zero, List.set_cons_succ]
      refine Rg.takeL (i := 5) (v := ?_) rfl (by kernel_rfl) (by kernel_rfl) (by kernel_rfl) (fun _ _ _ h => h) (Or.inl ⟨by rfl, ?_⟩) (by assumption) ?_
      rotate_left
      · (intro wz hSw; (try dsimp only at hSw); go_simp <;> with_reducible rfl)
      try simp only [Act.put, List.setIfInBounds_toArray, List.set_cons_zero, List.set_cons_succ]
      refine wpAnyH_ready (rs := [6]) (by kernel_rfl) (by simp) ?_
      refine Rg.readyL (i := 6) rfl (fun K hK => ?_)
      refine elimM (by rfl) (run_estore HP6.out rfl (.int .i64 (c - 1)) ⟨_, _, _, rfl, rfl, rfl, rfl⟩) ?_
      rintro w9 ⟨hm7, hu7⟩
      have HU7 : Hid (Rg.Upd w2 mm w9) := Lib.hid (upd_trans HU6.out hu7)
      have HM7 := Lib.hid hm7
      refine hK.out _ _ ?_ (fun hHeld => ?_)
      · exact HO2.out.upd HU7.out (fun e => by have := HLm.out; have := HG0.out; omega)
      clear hK K hm7 hu7
      try simp only [Act.put, List.setIfInBounds_toArray, List.set_cons_zero, List.set_cons_succ]
      refine wpAnyH_done (by kernel_rfl) ?_ _
      refine NoPanic.normal ?_
      clear hHeld
      have HG9 := Lib.hid (HG2.out.sums HMm.out HU7.out (by rw [HMm.out]; exact HM7.out))
      have HO9 := Lib.hid (HO2.out.upd HU7.out (fun e => by have := HLm.out; have := HG0.out; omega))
      have HFr99 := Lib.hid (HFr2.out.upd HU7.out (.inl HKm.out))
      have HMo : Hid (MoS w9 (some mm) (setF (fix_ l e) x (some (.int .i64 (c - 1)))) (more (fix_ l e) x (exN l e))) := HM7
      clear HM7 HU7 HU6 HP6 HM6
      have HSl : Hid (St bb tm hm M (lessL l e s) tw w9) := Lib.hid (by
        obtain ⟨h1, h2, h3⟩ := HRow.out
        have hg := HG9.out
        rw [← HXs.out] at hg
        exact st_less HSt.out.u HSt.out.o HSt.out.full h1 h2 h3 HRc.out HNe.out (by rw [HNn.out]) hg)
      have HRes : Hid (FreeP bb tm hm M l tw e s w (.returned (.int .i64 0)) w9) := Lib.hid (by
        unfold FreeP
        have hfi : ¬ findR l e s < 0 := by have := HFi.out; omega
        rw [if_neg hfi, if_neg hfi, HFr9.out]
        exact ⟨rfl, M, HSl.out, HFr99.out⟩)
      have q3 := HD0.out.1
      have q4 := HD0.out.2
      have q5 : c - 1 ≠ 0 := of_decide_eq_false HD0.out.2
      go_wp2_with (first
        | (refine Rg.run rfl _ _ (op_ldK HX.out HKx.out HO9.out ⟨_, rfl, rfl⟩) ?_)
        | (at_lookup; refine Rg.run rfl _ _ (op_lookI' (V := .int .i64 (c - 1)) HMo.out HX.out HKx.out (by first | (rw [setF_at]; done) | (rw [setF_at]; rfl)) ⟨_, _, rfl, rfl, rfl⟩) ?_))
      go_ret
      exact HRes.out
    · refine elimMe (by rfl) (run_entry (HIm.out.same (w' := w2.drew) fun _ _ => rfl) HNi.out HX.out HKx.out HV1.out ⟨_, _, rfl, rfl, rfl⟩) ?_
      rintro we st ⟨hm6, hu6, hp6⟩
      have HP6 := Lib.hid hp6
      have HU6 := Lib.hid (upd_drew hu6)
      have HM6 := Lib.hid hm6
      refine hK.out _ _ ?_ (fun hHeld => ?_)
      · exact HO2.out.upd HU6.out (fun e => by have := HLm.out; have := HG0.out; omega)
      clear hK K hm6 hu6 hp6
      try simp only [Act.put, List.setIfInBounds_toArray, List.set_cons_zero, List.set_cons_succ]
      refine Rg.takeL (i := 5) (v := ?_) rfl (by kernel_rfl) (by kernel_rfl) (by kernel_rfl) (fun _ _ _ h => h) (Or.inl ⟨by rfl, ?_⟩) (by assumption) ?_
      rotate_left
      · (intro wz hSw; (try dsimp only at hSw); go_simp <;> with_reducible rfl)
      try simp only [Act.put, List.setIfInBounds_toArray, List.set_cons_zero, List.set_cons_succ]
      refine wpAnyH_ready (rs := [2]) (by kernel_rfl) (by simp) ?_
      refine Rg.readyL (i := 2) rfl (fun K hK => ?_)
      refine Rg.meet (by rfl) _ _ (op_lookI' (V := .int .i64 c) HM6.out HX.out HKx.out (by first | (rw [setF_at]; done) | (rw [setF_at]; rfl)) ?_) ?_
      · exact ⟨_, _, rfl, rfl, rfl⟩
      refine hK.out _ _ ?_ (fun hHeld => ?_)
      · exact hHeld
      clear hK K
      try simp only [Act.put, List.setIfInBounds_toArray, List.set_cons_zero, List.set_cons_succ]
      refine Rg.takeL (i := 3) (v := ?_) rfl (by kernel_rfl) (by kernel_rfl) (by kernel_rfl) (fun _ _ _ h => h) (Or.inl ⟨by rfl, ?_⟩) (by assumption) ?_
      rotate_left
      · (intro wz hSw; (have q0 := HW1.out; have q9 := HW2.out; go_simp <;> with_reducible rfl))
      try simp only [Act.put, List.setIfInBounds_toArray, List.set_cons_zero, List.set_cons_succ]
      refine wpAnyH_ready (rs := [6]) (by kernel_rfl) (by simp) ?_
      refine Rg.readyL (i := 6) rfl (fun K hK => ?_)
      refine elimM (by rfl) (run_estore HP6.out rfl (.int .i64 (c - 1)) ⟨_, _, _, rfl, rfl, rfl, rfl⟩) ?_
      rintro w9 ⟨hm7, hu7⟩
      have HU7 : Hid (Rg.Upd w2 mm w9) := Lib.hid (upd_trans HU6.out hu7)
      have HM7 := Lib.hid hm7
      refine hK.out _ _ ?_ (fun hHeld => ?_)
      · exact HO2.out.upd HU7.out (fun e => by have := HLm.out; have := HG0.out; omega)
      clear hK K hm7 hu7
      try simp only [Act.put, List.setIfInBounds_toArray, List.set_cons_zero, List.set_cons_succ]
      refine wpAnyH_done (by kernel_rfl) ?_ _
      refine NoPanic.normal ?_
      clear hHeld
      have HG9 := Lib.hid (HG2.out.sums HMm.out HU7.out (by rw [HMm.out]; exact HM7.out))
      have HO9 := Lib.hid (HO2.out.upd HU7.out (fun e => by have := HLm.out; have := HG0.out; omega))
      have HFr99 := Lib.hid (HFr2.out.upd HU7.out (.inl HKm.out))
      have HMo : Hid (MoS w9 (some mm) (setF (fix_ l e) x (some (.int .i64 (c - 1)))) (more (fix_ l e) x (exN l e))) := HM7
      clear HM7 HU7 HU6 HP6 HM6
      have HSl : Hid (St bb tm hm M (lessL l e s) tw w9) := Lib.hid (by
        obtain ⟨h1, h2, h3⟩ := HRow.out
        have hg := HG9.out
        rw [← HXs.out] at hg
        exact st_less HSt.out.u HSt.out.o HSt.out.full h1 h2 h3 HRc.out HNe.out (by rw [HNn.out]) hg)
      have HRes : Hid (FreeP bb tm hm M l tw e s w (.returned (.int .i64 0)) w9) := Lib.hid (by
        unfold FreeP
        have hfi : ¬ findR l e s < 0 := by have := HFi.out; omega
        rw [if_neg hfi, if_neg hfi, HFr9.out]
        exact ⟨rfl, M, HSl.out, HFr99.out⟩)
      have q3 := HD0.out.1
      have q4 := HD0.out.2
      have q5 : c - 1 ≠ 0 := of_decide_eq_false HD0.out.2
      go_wp2_with (first
        | (refine Rg.run rfl _ _ (op_ldK HX.out HKx.out HO9.out ⟨_, rfl, rfl⟩) ?_)
        | (at_lookup; refine Rg.run rfl _ _ (op_lookI' (V := .int .i64 (c - 1)) HMo.out HX.out HKx.out (by first | (rw [setF_at]; done) | (rw [setF_at]; rfl)) ⟨_, _, rfl, rfl, rfl⟩) ?_))
      go_ret
      exact HRes.out
end
end Bd
end Go.Proofs.YtlembfhdljmcoaaDoor

/-
  Layer 12: the contract of Free; a map of sums gone through: its keys are the rows'.
-/
namespace Go.Proofs.YtlembfhdljmcoaaDoor
set_option maxRecDepth 20000
open Go.RowKit Go.Maps

namespace Bd
open Rf Sm
section
variable {bb : Nat} {tm hm : Option Nat} {M : Int → Option Nat} {l : List Rw} {tw : Option (ByteArray × ByteArray)} {w : World} {e : Int}
theorem free_any {s : ByteArray} (h : St bb tm hm M l tw w) (hF : Bd.Fine 40 l) (he : W64 e) :
    Calls Tryd.prog 23 #[.pointer (some ⟨bb, 0, none⟩), .int .i64 e, .string s, .agg (kc (sumB s))] w (FreeP bb tm hm M l tw e s w) := by
  rcases fix_cases h.u h.o e (sumB s) with ⟨r, hr, hre, hrx, _⟩ | ⟨_, hf⟩
  · by_cases hrs : r.s = s
    · by_cases hc : r.n = 1
      · exact free_c h hF he hr hre hrs hc
      · exact free_d h hF he hr hre hrs hc
    · exact free_b h hF he hr hre hrx hrs
  · exact free_a h hF he hf
set_option maxHeartbeats 2000000 in
theorem Free_any {s : ByteArray} (h : St bb tm hm M l tw w) (hT : Tab w) (hF : Bd.Fine 40 l) (he : W64 e) (hs : s.size ≤ 200) : Calls Tryd.prog 8 #[.pointer (some ⟨bb, 0, none⟩), .int .i64 e, .string s] w (FreeP bb tm hm M l tw e s w) := by
  have HOf := Lib.hid (sum_ofB s (by omega) w hT)
  have HP : Hid (∀ w', Below w.heap.size w w' → Calls Tryd.prog 23 #[.pointer (some ⟨bb, 0, none⟩), .int .i64 e, .string s, .agg (kc (sumB s))] w' (FreeP bb tm hm M l tw e s w)) := Lib.hid fun w' hb => (free_any (h.below hb) hF he).mono (by
    rintro en w9 ⟨h1, M', hS, hf⟩
    exact ⟨h1, M', hS, ((FrK.start _ w).more hb).trans hf⟩)
  obtain ⟨k, hk⟩ : ∃ k, kc (sumB s) = k := ⟨_, rfl⟩
  rw [hk] at HOf HP
  clear hk h hT hF he hs
  go_enter Tryd.func8, Tryd.ntmps8
  go_wp2_with fail
  refine HOf.out.mono ?_
  rintro e9 w1 ⟨rfl, hb1⟩
  have HP1 := Lib.hid (HP.out w1 hb1)
  clear hb1 HP HOf
  go_wp2_with fail
  refine HP1.out.mono ?_
  rintro e9 w2 ⟨rfl, M', hS, hf⟩
  obtain ⟨v, hv⟩ : ∃ v : Int, (if findR l e s < 0 then (7 : Int) else 0) = v := ⟨_, rfl⟩
  have HR : Hid (FreeP bb tm hm M l tw e s w (.returned (.int .i64 v)) w2) := Lib.hid ⟨by rw [hv], M', hS, hf⟩
  rw [hv]
  clear hS hf HP1 hv
  go_wp2
  go_ret
  exact HR.out
theorem obj_free {p : Option Addr} {K : Nat → Prop} (s : ByteArray) (h : obj p l tw K w) (hT : Tab w) (hF : Bd.Fine 40 l) (hs : s.size ≤ 200) (he : W64 e) : Calls Tryd.prog 8 #[.pointer p, .int .i64 e, .string s] w fun en w' =>
    ∃ K', en = .returned (.int .i64 (if findR l e s < 0 then 7 else 0)) ∧ obj p (if findR l e s < 0 then l else freeR l e s) tw K' w' ∧ FrK K K' w w' := by
  obtain ⟨bb, tm, hm, M, rfl, rfl, h⟩ := h
  refine (Free_any h hT hF he hs).mono ?_
  rintro en w' ⟨rfl, M', hS, hf⟩
  exact ⟨KS bb tm hm M', rfl, ⟨bb, tm, hm, M', rfl, rfl, hS⟩, hf⟩
end
theorem ranges_same {w w' : World} {P : Program} {k : TypeId} {R : Value → Option (DataW Value × List MemPlace)} {b r n : Nat} {D : DataW Value} {left : Lit → Bool} {cnt : Nat} (h : w.ranges P k R b r n D left cnt) (hb : w'.heap[b]? = w.heap[b]?) (hr : w'.heap[r]? = w.heap[r]?) : w'.ranges P k R b r n D left cnt := by
  obtain ⟨es, clock, since, seen, c0, h1, F, hs, hD, h2, rest⟩ := h
  exact ⟨es, clock, since, seen, c0, hb.trans h1, F, hs, hD, hr.trans h2, rest⟩
/-- where as many keys are known as there are, there is no other one -/
theorem keys_all {w : World} {b : Nat} {f : List UInt8 → Option Value} {N : Nat} {D : DataW Value} (h : MapB Tryd.prog 43 kl L32 w b f N D) (rs : List Lit) (hn : rs.Nodup) (hl : rs.length = N) (hr : ∀ z ∈ rs, Maps.has D z = true) : ∀ z, Maps.has D z = true → z ∈ rs := by
  classical
  obtain ⟨es, hD, hpw, _⟩ := h.own.entries lawSum
  have hks : (es.map (·.1)).Nodup := List.pairwise_map.2 hpw
  have hlen : (es.map (·.1)).length = N := by
    have := h.size
    rw [hD] at this
    rw [List.length_map]
    exact this
  have hin : ∀ z, Maps.has D z = true → z ∈ es.map (·.1) := fun z hz => by
    rw [hD, has_eq, List.any_eq_true] at hz
    obtain ⟨p, hp, hs⟩ := hz
    exact List.mem_map.2 ⟨p, hp, WideAt.sameKey_eq hs⟩
  have hp : ((es.map (·.1)).filter fun z => decide (z ∈ rs)).Perm rs := by
    refine (List.perm_ext_iff_of_nodup (hks.filter _) hn).2 fun z => ?_
    rw [List.mem_filter]
    exact ⟨fun g => of_decide_eq_true g.2, fun g => ⟨hin z (hr z g), decide_eq_true g⟩⟩
  have hf := hp.length_eq
  rw [hl, ← hlen, List.length_filter_eq_length_iff] at hf
  exact fun z hz => of_decide_eq_true (hf z (hin z hz))
/-- the keys of an epoch's sums are its rows' -/
theorem keys_rows {w : World} {b : Nat} {l : List Rw} {e : Int} {D : DataW Value} (u : UqR l) (o : OneS l) (h : MapB Tryd.prog 43 kl L32 w b (fix_ l e) (exN l e) D) : (∀ q ∈ l, q.e = e → Maps.has D (kl (sumB q.s)) = true) ∧ ∀ z, Maps.has D z = true → ∃ q ∈ l, q.e = e ∧ z = kl (sumB q.s) := by
  have h1 : ∀ q ∈ l, q.e = e → Maps.has D (kl (sumB q.s)) = true := fun q hq he => by
    have := h.at_ (sumB q.s) (sumB_length _)
    rw [← he, fix_some u o hq] at this
    exact this.1
  refine ⟨h1, fun z hz => ?_⟩
  have hz := keys_all h ((l.filter fun q => decide (q.e = e)).map fun q => kl (sumB q.s)) ?_ (by rw [List.length_map]; rfl) (fun z hz => by
    obtain ⟨q, hq, rfl⟩ := List.mem_map.1 hz
    rw [List.mem_filter] at hq
    exact h1 q hq.1 (of_decide_eq_true hq.2)) z hz
  · obtain ⟨q, hq, rfl⟩ := List.mem_map.1 hz
    rw [List.mem_filter] at hq
    exact ⟨q, hq.1, of_decide_eq_true hq.2, rfl⟩
  · refine List.pairwise_map.2 (List.Pairwise.imp_of_mem (fun {a b} ha hb hab g => hab ?_) (List.Pairwise.filter _ u))
    rw [List.mem_filter] at ha hb
    have hx := kl_inj (sumB_length _) (sumB_length _) g
    exact ⟨(of_decide_eq_true ha.2).trans (of_decide_eq_true hb.2).symm, o a ha.1 b hb.1 hx⟩
section
variable {ops : Array Oper} {rest : List Oper} {o : Oper} {a : Go.Act} {w : World} {Q : Exit → Go.Act → World → Prop}
theorem wpl_next_sum {m r N : Nat} {D : DataW Value} {left : Lit → Bool} {cnt : Nat} (hg : o.guard = none) (it : Operand) (hop : o.op = Op.next it false) (hit : a.eval it = .pointer (some ⟨r, 0, none⟩)) (h : w.ranges Tryd.prog 43 heldE m r N D left cnt) {Pk : ByteArray → Prop} (hkey : ∀ z, left z = true → ∃ s, Pk s ∧ z = kl (sumB s))
    (hDone : (∀ z, left z = false) → wpList Tryd.prog ops Q rest (a.put o.dst (.tuple #[.bool false])) w)
    (hMore : ∀ s v w' cnt', Pk s → left (kl (sumB s)) = true → w'.ranges Tryd.prog 43 heldE m r N D (fun z => left z && !z.sameKey (kl (sumB s))) cnt' → cnt' < cnt → w.grownBy w' (some r) → w'.heap.size = w.heap.size →
      (Instr.entry (.pointer (some ⟨r, 0, none⟩))).run Tryd.prog w' = .ok (.tuple #[.agg (kc (sumB s)), v]) w' → wpList Tryd.prog ops Q rest (a.put o.dst (.tuple #[.bool true, .agg (kc (sumB s)), v])) w') :
    wpList Tryd.prog ops Q (o :: rest) a w := by
  refine wpList_plain hg fun K' hK' => ?_
  unfold Oper.wp
  rcases h.next lawSum o.type with ⟨h0, hl, hrun⟩ | ⟨key, v, kz, y, w', cnt', hk, hlk, hv, hat, hrun, hrg, hlt, hgr, hsz, hen⟩
  · simp [execOp, hop, hit, hrun, Result.andThen]
    exact hK' _ _ (hDone hl)
  · obtain ⟨s, hp, rfl⟩ := hkey kz hlk
    obtain rfl : key = .agg (kc (sumB s)) := lawSum.inj hk (keyOf_sum _ (sumB_length s))
    simp [execOp, hop, hit, hrun, Result.andThen]
    exact hK' _ _ (hMore s v w' cnt' hp hlk hrg hlt hgr hsz hen)
end
end Bd
end Go.Proofs.YtlembfhdljmcoaaDoor

/-
  Layer 12: the contract of Drop: an epoch's sums are gone through, and left one by one.
-/
namespace Go.Proofs.YtlembfhdljmcoaaDoor
set_option maxRecDepth 20000
open Go.RowKit Go.Maps

namespace Bd
open Rf Sm
/-- while an epoch is left: these rows are left; so many texts are gone -/
structure Dr (bb : Nat) (tm hm : Option Nat) (M0 : Int → Option Nat) (l : List Rw) (tw : Option (ByteArray × ByteArray)) (e : Int) (m r c1 c2 c3 : Nat) (w0 : World) (lc : List Rw) (M : Int → Option Nat) (left : Lit → Bool) (cnt N : Nat) (D : DataW Value) (gone : Nat) (w : World) : Prop where
  st : St bb tm hm M lc tw w
  rg : w.ranges Tryd.prog 43 heldE m r N D left cnt
  lv : Lv w bb e (some m) c1 c2 c3
  rows : lc = l.filter fun q => decide (q.e ≠ e) || left (kl (sumB q.s))
  keys : ∀ z, left z = true → ∃ q ∈ lc, q.e = e ∧ z = kl (sumB q.s)
  mm : (∃ q ∈ lc, q.e = e) → M e = some m
  gone : gone + (textsR lc).length = (textsR l).length
  fr : FrK (KS bb tm hm M0) (KS bb tm hm M) w0 w
  ks : ∀ k, KS bb tm hm M k → KS bb tm hm M0 k
  out : w0.heap.size ≤ c1 ∧ w0.heap.size ≤ c2 ∧ w0.heap.size ≤ c3 ∧ w0.heap.size ≤ r
section
variable {bb : Nat} {tm hm : Option Nat} {M0 M M6 : Int → Option Nat} {l lc : List Rw} {tw : Option (ByteArray × ByteArray)} {w0 w w3 w5 w6 : World} {e : Int} {m r c1 c2 c3 cnt cnt3 N gone gone' : Nat} {left : Lit → Bool} {D : DataW Value} {s : ByteArray}
def InRow (lc : List Rw) (e : Int) (s : ByteArray) : Prop := ∃ q ∈ lc, q.e = e ∧ q.s = s
theorem upd_grown (h : w.grownBy w3 (some r)) (hs : w3.heap.size = w.heap.size) : Rg.Upd w r w3 := ⟨h.os, h.tape, h.output, hs, fun k hk => by
  by_cases hl : k < w.heap.size
  · exact h.block k hl fun g => hk (by injection g)
  · rw [Array.getElem?_eq_none (by omega), Array.getElem?_eq_none (by omega)]⟩
theorem same_kl {s t : ByteArray} : (kl (sumB s)).sameKey (kl (sumB t)) = true ↔ sumB s = sumB t :=
  ⟨fun h => kl_inj (sumB_length _) (sumB_length _) (WideAt.sameKey_eq h), fun h => by rw [h]; exact WideAt.sameKey_self (kl_key (sumB_length _))⟩
theorem dr_step (h : Dr bb tm hm M0 l tw e m r c1 c2 c3 w0 lc M left cnt N D gone w) (o : OneS l) (hl0 : ∀ k, KS bb tm hm M0 k → k < w0.heap.size) (hs : ∃ q ∈ lc, q.e = e ∧ q.s = s) (rg3 : w3.ranges Tryd.prog 43 heldE m r N D (fun z => left z && !z.sameKey (kl (sumB s))) cnt3)
    (u3 : Rg.Upd w r w3) (hb5 : Below w3.heap.size w3 w5) (hst : St bb tm hm M6 (delR lc e s) tw w6) (hks : ∀ k, KS bb tm hm M6 k → KS bb tm hm M k) (hsm : 0 < exN (delR lc e s) e → M6 = M) (hf : FrK (KS bb tm hm M) (KS bb tm hm M6) w5 w6) (hlv : Lv w6 bb e (some m) c1 c2 c3) {ty : TypeId} {wd : World}
    (hrun : (Builtin.delete_ #[62, 43] ty #[.map (some m), kcV (sumB s)]).run Tryd.prog (w5.alloc (.cells (kc (sumB s)) 43)) = .ok (.tuple #[]) wd) (hblk : w6.heap[m]? = wd.heap[m]?) (hg : gone' + (textsR (delR lc e s)).length = (textsR l).length) :
    ∃ cnt6, cnt6 ≤ cnt3 ∧ Dr bb tm hm M0 l tw e m r c1 c2 c3 w0 (delR lc e s) M6 (fun z => left z && !z.sameKey (kl (sumB s))) cnt6 N (D.del (kl (sumB s))) gone' w6 := by
  have hr3 := rg3.lt
  have hm3 := rg3.owns.lt
  have rg5 := ranges_same rg3 (hb5.block m hm3) (hb5.block r hr3)
  have rgA := rg5.alloc (.cells (kc (sumB s)) 43)
  obtain ⟨wd', cnt6, d1, d2, d3, d4⟩ := rgA.drop lawSum Tryd.underlying62 (key := kcV (sumB s)) (keyOf_sum _ (sumB_length s)) ty
  rw [hrun] at d1
  injection d1 with _ d1
  subst d1
  rw [strike_twice] at d2
  have hr5 : r < w5.heap.size := Nat.lt_of_lt_of_le hr3 hb5.size
  have hrK : ¬ KS bb tm hm M r := fun g => by have := hl0 r (h.ks r g); have := h.out.2.2.2; omega
  have hr6 : w6.heap[r]? = wd.heap[r]? := by
    rw [hf.block r hr5 hrK, (upd_turned d4).block r rgA.ne]
    exact ((al1 w5 (.cells (kc (sumB s)) 43)).block r hr5).symm
  obtain ⟨q0, hq0, hqe, hqs⟩ := hs
  have hq0l : q0 ∈ l := by rw [h.rows] at hq0; exact (List.mem_filter.1 hq0).1
  refine ⟨cnt6, d3, hst, ranges_same d2 hblk hr6, hlv, ?_, fun z hz => ?_, fun ⟨q, hq, hqe'⟩ => ?_, hg, (((h.fr.upd u3 (.inr h.out.2.2.2)).more hb5).trans hf), fun k hk => h.ks k (hks k hk), h.out⟩
  · unfold delR
    rw [h.rows, List.filter_filter]
    refine List.filter_congr fun q hq => ?_
    by_cases he : q.e = e
    · by_cases hs : q.s = s
      · have h1 : hitR e s q = true := hit_iff.2 ⟨he, hs⟩
        have h2 : (kl (sumB q.s)).sameKey (kl (sumB s)) = true := same_kl.2 (by rw [hs])
        simp [h1, h2, he]
      · have h1 : hitR e s q = false := hit_false fun g => hs g.2
        have h2 : (kl (sumB q.s)).sameKey (kl (sumB s)) = false := by
          cases hh : (kl (sumB q.s)).sameKey (kl (sumB s)) with
          | false => rfl
          | true => exact absurd ((o q hq q0 hq0l (by rw [hqs]; exact same_kl.1 hh)).trans hqs) hs
        simp [h1, h2]
    · have h1 : hitR e s q = false := hit_false fun g => he g.1
      simp [h1, he]
  · simp only [Bool.and_eq_true, Bool.not_eq_true'] at hz
    obtain ⟨q, hq, hqe', rfl⟩ := h.keys z hz.1
    refine ⟨q, mem_del.2 ⟨hq, hit_false fun g => ?_⟩, hqe', rfl⟩
    rw [same_kl.2 (by rw [g.2])] at hz
    cases hz.2
  · rw [hsm (ex_pos.2 ⟨q, hq, hqe'⟩)]
    exact h.mm ⟨q, (mem_del.1 hq).1, hqe'⟩
theorem dr_end (h : Dr bb tm hm M0 l tw e m r c1 c2 c3 w0 lc M left cnt N D gone w) (hl : ∀ z, left z = false) : lc = dropR l e := by
  rw [h.rows]
  refine List.filter_congr fun q _ => ?_
  rw [hl, Bool.or_false]
/-- what Drop tells and does -/
def DropP (bb : Nat) (tm hm : Option Nat) (M : Int → Option Nat) (l : List Rw) (tw : Option (ByteArray × ByteArray)) (e : Int) (w : World) (en : Ending) (w' : World) : Prop :=
  en = .returned (.int .i64 ((textsR l).length - (textsR (dropR l e)).length : Int)) ∧ ∃ M', St bb tm hm M' (dropR l e) tw w' ∧ FrK (KS bb tm hm M) (KS bb tm hm M') w w'
set_option maxHeartbeats 4000000 in
theorem drop_nil (h : St bb tm hm M l tw w) (he : W64 e) (hM : M e = none) : Calls Tryd.prog 11 #[.pointer (some ⟨bb, 0, none⟩), .int .i64 e] w (DropP bb tm hm M l tw e w) := by
  obtain ⟨Nh, hNe, g⟩ := h.g
  have h0 := (ex_none g hM).2
  have hd : dropR l e = l := List.filter_eq_self.2 fun q hq => decide_eq_true fun k => by have := ex_pos.2 ⟨q, hq, k⟩; omega
  have HLr := Lib.hid (leaver_any g he)
  have HE := Lib.hid he
  have HM := Lib.hid hM
  have HG := Lib.hid g
  have HR : Hid (∀ w', Below w.heap.size w w' → DropP bb tm hm M l tw e w (.returned (.int .i64 0)) w') := Lib.hid fun w' hb => by
    unfold DropP
    rw [hd, Int.sub_self]
    exact ⟨rfl, M, h.below hb, (FrK.start _ w).more hb⟩
  clear h he hM hNe g h0 hd
  go_enter Tryd.func11, Tryd.ntmps11
  go_wp2_with fail
  refine HLr.out.mono ?_
  rintro e9 w1 ⟨c1, c2, c3, rfl, hlv, hcs, hb⟩
  have HG1 := Lib.hid (HG.out.below hb)
  have HR1 := Lib.hid (HR.out _ (hb.trans ((al1 w1 (.mapIter none 0 #[] 0)).mono hb.size)))
  have q1 := ob1 HG1.out.own
  have hrg := run_range_nilMap (P := Tryd.prog) w1 62 43 3 Tryd.underlying62
  have hnx : ∀ ty, (Instr.next (.pointer (some ⟨w1.heap.size, 0, none⟩)) false ty).run Tryd.prog (w1.alloc (.mapIter none 0 #[] 0)) = _ := fun ty => run_next_nilMap w1 ty 0 0 #[]
  clear hlv hcs hb HLr HG HR
  go_wp2_with (first
    | (at_lookup; refine Rg.run rfl _ _ (op_lookH' HG1.out.hd HE.out HM.out ⟨_, _, rfl, rfl, rfl⟩) ?_))
  refine wp_loop_rounds 1 ?_
  rw [rounds_succ]
  go_wp2
  go_ret
  exact HR1.out
set_option maxHeartbeats 8000000 in
theorem drop_some {m : Nat} (h : St bb tm hm M l tw w) (hF : Bd.Fine 40 l) (he : W64 e) (hM : M e = some m) : Calls Tryd.prog 11 #[.pointer (some ⟨bb, 0, none⟩), .int .i64 e] w (DropP bb tm hm M l tw e w) := by
  obtain ⟨Nh, hNe, g⟩ := h.g
  have HLr := Lib.hid (leaver_any g he)
  have HE := Lib.hid he
  have HM := Lib.hid hM
  have HG := Lib.hid g
  have HSt := Lib.hid h
  have HF := Lib.hid hF
  have HLt : Hid (∀ k, KS bb tm hm M k → k < w.heap.size) := Lib.hid g.lt
  clear h he hM hNe g hF
  go_enter Tryd.func11, Tryd.ntmps11
  go_wp2_with fail
  refine HLr.out.mono ?_
  rintro e9 w1 ⟨c1, c2, c3, rfl, hlv, hcs, hb⟩
  have HG1 := Lib.hid (HG.out.below hb)
  have HB1 := Lib.hid hb
  have HLv := Lib.hid hlv
  have HCs := Lib.hid hcs
  have q1 := ob1 HG1.out.own
  have hI := HG1.out.inn e
  rw [HM.out] at hI
  obtain ⟨D0, hI⟩ := hI
  have HI := Lib.hid hI
  clear hlv hcs hb HLr HG hI
  go_wp2_with (first
    | (at_lookup; refine Rg.run rfl _ _ (op_lookH' HG1.out.hd HE.out HM.out ⟨_, _, rfl, rfl, rfl⟩) ?_)
    | (at_range; refine wpList_range_own _ rfl _ 62 rfl 43 3 lawSum Tryd.underlying62 heldE m (exN l e) D0 rfl HI.out.own ?_; intro w2 hrg2 hg2 hs2))
  go_frame
  obtain ⟨r, hr⟩ : ∃ r, w1.heap.size = r := ⟨_, rfl⟩
  rw [hr] at hrg2 ⊢
  have HOut : Hid (w.heap.size ≤ c1 ∧ w.heap.size ≤ c2 ∧ w.heap.size ≤ c3 ∧ w.heap.size ≤ r) := Lib.hid ⟨HCs.out.1, HCs.out.2.1, HCs.out.2.2, by rw [← hr]; exact HB1.out.size⟩
  have hb2 : Below w.heap.size w w2 := HB1.out.trans ⟨hg2.os, hg2.tape, hg2.output, hg2.size, fun k hk => hg2.block k (Nat.lt_of_lt_of_le hk HB1.out.size) (by simp)⟩
  have hb12 : Below w1.heap.size w1 w2 := ⟨hg2.os, hg2.tape, hg2.output, hg2.size, fun k hk => hg2.block k hk (by simp)⟩
  have hkr := keys_rows HSt.out.u HSt.out.o HI.out
  have HD2 : Hid (Dr bb tm hm M l tw e m r c1 c2 c3 w l M (Maps.has D0) (Maps.size D0) (exN l e) D0 0 w2) := Lib.hid
    ⟨HSt.out.below hb2, hrg2, by have := HLv.out.below hb12; rwa [HM.out] at this, (List.filter_eq_self.2 fun q hq => by
      by_cases he : q.e = e
      · rw [hkr.1 q hq he, Bool.or_true]
      · rw [decide_eq_true he, Bool.true_or]).symm, fun z hz => hkr.2 z hz, fun _ => HM.out, Nat.zero_add _, (FrK.start _ w).more hb2, fun k hk => hk, HOut.out⟩
  clear hr hb2 hb12 hkr hrg2 hg2 hs2 HI HLv HCs HB1 HG1 q1
  go_loopw [5] (fun v wr => ∃ (lc : List Rw) (M' : Int → Option Nat) (left : Lit → Bool) (cnt N : Nat) (D : DataW Value) (gone : Nat), v = .int .i64 (gone : Nat) ∧ Hid (Dr bb tm hm M l tw e m r c1 c2 c3 w lc M' left cnt N D gone wr)) (fun _ wr => wr.rangeLeft m r)
  case atStart => exact ⟨l, M, _, _, _, D0, 0, rfl, HD2⟩
  case round =>
    clear HD2
    obtain ⟨lc, M', left, cnt, N, D, gone, rfl, HD⟩ := hrel
    have HKey : Hid (∀ z, left z = true → ∃ s, InRow lc e s ∧ z = kl (sumB s)) := Lib.hid fun z hz => by
      obtain ⟨q, hq, he, hz⟩ := HD.out.keys z hz
      exact ⟨q.s, ⟨q, hq, he, rfl⟩, hz⟩
    go_wp2_with (first
      | (at_next; refine wpl_next_sum rfl _ rfl rfl HD.out.rg HKey.out ?_ ?_))
    · intro hl0
      have HR : Hid (DropP bb tm hm M l tw e w (.returned (.int .i64 (gone : Nat))) wr) := Lib.hid (by
        have hd := dr_end HD.out hl0
        have hg := HD.out.gone
        have hst := HD.out.st
        rw [hd] at hg hst
        exact ⟨by rw [← hg]; congr 2; omega, M', hst, HD.out.fr⟩)
      clear hl0
      go_wp2
      go_ret
      exact HR.out
    · intro s v w3 cnt3 hps hls hrg3 hlt hg3 hs3 hen
      have HPs := Lib.hid hps
      have HU3 := Lib.hid (upd_grown hg3 hs3)
      have HRg := Lib.hid hrg3
      have HLt3 := Lib.hid hlt
      have HX : Hid (L32 (sumB s)) := Lib.hid (sumB_length s)
      obtain ⟨k, hk⟩ : ∃ k, kc (sumB s) = k := ⟨_, rfl⟩
      have HKx := Lib.hid hk
      rw [hk] at hen ⊢
      have hlcl : ∀ q ∈ lc, q ∈ l := fun q hq => by have := HD.out.rows; rw [this] at hq; exact (List.mem_filter.1 hq).1
      have HLa : Hid (∀ w5, Below w3.heap.size w3 w5 → Calls Tryd.prog 35 #[.agg k, .pointer (some ⟨c1, 0, none⟩), .pointer (some ⟨c2, 0, none⟩), .pointer (some ⟨c3, 0, none⟩)] w5 (LeaveP bb tm hm M' lc tw e s m c1 c2 c3 w5)) := Lib.hid fun w5 hb5 => by
        have hks := HD.out.ks
        have hlt := HLt.out
        obtain ⟨o1, o2, o3, o4⟩ := HD.out.out
        have hst3 : St bb tm hm M' lc tw w3 := HD.out.st.keep (Nat.le_of_eq HU3.out.size.symm) fun k hk => HU3.out.block k fun g => by have := hlt k (hks k hk); omega
        have hlv3 := HD.out.lv.off HU3.out (fun g => by have := HD.out.rg.owns.lt; have h2 := HD.out.lv.a.2; have h3 := HD.out.rg; obtain ⟨_, _, _, _, _, _, _, _, _, h4, _⟩ := h3; rw [g, h4] at h2; cases h2) (fun g => by have h2 := HD.out.lv.b.2; have h3 := HD.out.rg; obtain ⟨_, _, _, _, _, _, _, _, _, h4, _⟩ := h3; rw [g, h4] at h2; cases h2) (fun g => by have h2 := HD.out.lv.c.2; have h3 := HD.out.rg; obtain ⟨_, _, _, _, _, _, _, _, _, h4, _⟩ := h3; rw [g, h4] at h2; cases h2)
        obtain ⟨q, hq, hqe, hqs⟩ := HPs.out
        have hMm := HD.out.mm ⟨q, hq, hqe⟩
        have hlen : lc.length ≤ 40 := Nat.le_trans (by rw [HD.out.rows]; exact List.length_filter_le _ _) HF.out.len
        obtain ⟨m', hm', hc⟩ := leave_any (hst3.below hb5) (s := s) (hasR_iff.2 ⟨q, hq, hqe, hqs⟩) HE.out hlen (fun r hr => (HF.out.row r (hlcl r hr)).2.2.1) (by rw [hMm]; exact hlv3.below hb5) (fun k hk g => by have := hlt k (hks k g); rcases hk with hk | hk | hk <;> omega)
        rw [hMm] at hm'
        injection hm' with hm'
        subst hm'
        rwa [HKx.out] at hc
      clear hps hls hrg3 hlt hg3 hs3 hk hlcl
      go_wp2_with (first
        | (refine wpList_run rfl _ _ (run_alloc_sum _ _ rfl _ _ rfl) ?_)
        | (refine wpl_store_sm (Rg.Own.new _ _ _) (by rfl) HX.out HKx.out rfl _ _ rfl rfl rfl rfl ?_; intro w5 hn5 hu5; have HB5 : Hid (Below w3.heap.size w3 w5) := Lib.hid (hu5.below (al1 w3 _) (Nat.le_refl _)); have HO5 := Lib.hid hn5; clear hn5 hu5)
        | (refine Rg.run rfl _ _ (op_ldK HX.out HKx.out HO5.out ⟨_, rfl, rfl⟩) ?_))
      refine (HLa.out _ HB5.out).mono ?_
      rintro e9 w6 ⟨rfl, ⟨M6, hst, hks, hsm, hf⟩, hlv, ty, wd, hrun, hblk⟩
      have HSp : Hid (∀ gone', gone' + (textsR (delR lc e s)).length = (textsR l).length → ∃ cnt6, cnt6 ≤ cnt3 ∧ Dr bb tm hm M l tw e m r c1 c2 c3 w (delR lc e s) M6 (fun z => left z && !z.sameKey (kl (sumB s))) cnt6 N (D.del (kl (sumB s))) gone' w6) := Lib.hid fun gone' hg =>
        dr_step HD.out HSt.out.o HLt.out HPs.out HRg.out HU3.out HB5.out hst hks hsm hf hlv hrun hblk hg
      have HGn : Hid (gone ≤ 40) := Lib.hid (by have := HD.out.gone; have := texts_le l; have := HF.out.len; omega)
      have HHas : Hid (hasR lc e s = true) := Lib.hid (hasR_iff.2 HPs.out)
      clear hst hks hsm hf hlv hrun hblk HLa hen
      by_cases hp : 0 < epN (delR lc e s) s
      · have hd := del_more (e := e) HD.out.st.u HD.out.st.o hp
        obtain ⟨cnt6, hc6, h6⟩ := HSp.out gone (by rw [hd.2.1]; exact HD.out.gone)
        have H6 := Lib.hid h6
        have HC6 := Lib.hid hc6
        rw [decide_eq_true hp]
        clear hp hd h6 hc6 HSp
        go_wp2_with fail
        go_roundw
        case rel => exact ⟨_, M6, _, cnt6, N, _, gone, rfl, H6⟩
        case measure =>
          rw [H6.out.rg.left_eq, HD.out.rg.left_eq]
          have := HC6.out
          have := HLt3.out
          omega
      · have hd := del_none HD.out.st.u HD.out.st.o HHas.out (by omega)
        obtain ⟨cnt6, hc6, h6⟩ := HSp.out (gone + 1) (by have := HD.out.gone; have := hd.2.1; omega)
        have H6 := Lib.hid h6
        have HC6 := Lib.hid hc6
        have q8 : IntKind.i64.wrap ((gone : Int) + 1) = ((gone + 1 : Nat) : Int) := by
          have := HGn.out
          simp only [IntKind.wrap_i64, wrap64]
          omega
        rw [decide_eq_false hp]
        clear hp hd h6 hc6 HSp
        go_wp2_with fail
        go_roundw
        case rel => exact ⟨_, M6, _, cnt6, N, _, gone + 1, by go_num, H6⟩
        case measure =>
          rw [H6.out.rg.left_eq, HD.out.rg.left_eq]
          have := HC6.out
          have := HLt3.out
          omega
theorem obj_drop {p : Option Addr} {K : Nat → Prop} (h : obj p l tw K w) (hF : Bd.Fine 40 l) (he : W64 e) : Calls Tryd.prog 11 #[.pointer p, .int .i64 e] w fun en w' =>
    ∃ K', en = .returned (.int .i64 ((textsR l).length - (textsR (dropR l e)).length : Int)) ∧ obj p (dropR l e) tw K' w' ∧ FrK K K' w w' := by
  obtain ⟨bb, tm, hm, M, rfl, rfl, h⟩ := h
  have hd : Calls Tryd.prog 11 #[.pointer (some ⟨bb, 0, none⟩), .int .i64 e] w (DropP bb tm hm M l tw e w) := by
    cases hM : M e with
    | none => exact drop_nil h he hM
    | some m => exact drop_some h hF he hM
  refine hd.mono ?_
  rintro en w' ⟨rfl, M', hS, hf⟩
  exact ⟨KS bb tm hm M', rfl, ⟨bb, tm, hm, M', rfl, rfl, hS⟩, hf⟩
end
end Bd
end Go.Proofs.YtlembfhdljmcoaaDoor

/-
  Layer 12: the program's store of bodies does what is said of rows.
-/
namespace Go.Proofs.YtlembfhdljmcoaaDoor
set_option maxRecDepth 20000
open Go.RowKit Go.Maps

namespace Bd
open Rf Sm
theorem obj_twin {p : Option Addr} {l : List Rw} {tw : Option (ByteArray × ByteArray)} {K : Nat → Prop} {w : World} (h : obj p l tw K w) : Calls Tryd.prog 14 #[.pointer p] w fun e w' => e = .returned (twinV tw) ∧ Below w.heap.size w w' := by
  obtain ⟨bb, tm, hm, M, rfl, rfl, h⟩ := h
  obtain ⟨Nh, _, g⟩ := h.g
  exact twin_any g.own
theorem theStore : Store obj where
  keep := obj_keep
  lt := obj_lt
  reads := obj_reads
  new := new_any
  put x s h hT hF hs := obj_put s h hT hF hs
  free x s hx h hT hF hs := obj_free s h hT hF hs hx
  drop x hx h _ hF := obj_drop h hF hx
  twin := obj_twin
end Bd
end Go.Proofs.YtlembfhdljmcoaaDoor

/-
  What a slice of strings that came in is, as a walk takes it.
-/
namespace Go.Proofs.YtlembfhdljmcoaaDoor
open Go.RowKit Go.ChangeShapes Go.WideShapes

/-- each of its len elements lies where it ought to -/
def IsStrs (w : World) (a : Option Addr) (len cap : Nat) (xs : List ByteArray) : Prop :=
  len ≤ cap ∧ cap ≤ maxLen ∧ xs.length = len ∧ ∀ j, j < len → ∃ b off, a = some ⟨b, off, none⟩ ∧ b < w.heap.size ∧ w.cell? ⟨b, off + j, none⟩ = some (.string (xs.getD j ByteArray.empty)) ∧ (xs.getD j ByteArray.empty).size ≤ maxLen

theorem lt_of_cell {w : World} {p : Addr} {v : Value} (h : w.cell? p = some v) : p.block < w.heap.size := by
  rcases Nat.lt_or_ge p.block w.heap.size with h' | h'
  · exact h'
  · simp [World.cell?, Array.getElem?_eq_none h'] at h

theorem isStrs_of {H : Type} {enc : TypeId × Value → H} {P : Program} {w : World} {t e : TypeId} {a : Option Addr} {len cap : Nat} {d : DataW H} {p : List MemPlace}
    (ht : P.underlying t = some (.slice e)) (he : P.underlying e = some .string) (hc : P.cellsOf e = 1)
    (h : DataW.Trod enc P w 0 (fun _ => true) true t (.slice a len cap) d p) : ∃ xs, IsStrs w a len cap xs := by
  obtain ⟨fuel, hf⟩ := h
  rcases open_strings ht he hc hf with ⟨hcs, _⟩ | ⟨x, l, c, ss, hcs, _, hl, hm, hz, _, hcell, hws⟩
  · simp [Value.cells] at hcs
    obtain ⟨rfl, rfl, rfl⟩ := hcs
    exact ⟨[], Nat.le_refl _, Nat.zero_le _, rfl, fun j hj => absurd hj (Nat.not_lt_zero _)⟩
  · simp [Value.cells] at hcs
    obtain ⟨rfl, rfl, rfl⟩ := hcs
    have hz' : ss.length = cap := by simpa using hz
    refine ⟨ss.take len, hl, hm, by rw [List.length_take]; omega, fun j hj => ?_⟩
    have hcj := hcell j (by omega)
    obtain ⟨b, off, spot⟩ := x
    have hspot : spot = none := by simpa [Addr.add] using World.cell?_spot (hcell 0 (by omega))
    subst hspot
    have e1 : (ss.take len).getD j ByteArray.empty = ss.getD j ByteArray.empty := by
      simp [List.getD, List.getElem?_take_of_lt hj]
    have e2 : (⟨b, off, none⟩ : Addr).add j = ⟨b, off + j, none⟩ := by unfold Addr.add; split <;> simp_all
    rw [e2] at hcj
    refine ⟨b, off, rfl, lt_of_cell hcj, by rw [e1]; exact hcj, ?_⟩
    rw [e1]
    have hj' : j < ss.length := by omega
    have e3 : ss.getD j ByteArray.empty = ss[j] := by simp [List.getD, hj']
    rw [e3]
    exact hws _ (List.getElem_mem _)
end Go.Proofs.YtlembfhdljmcoaaDoor
