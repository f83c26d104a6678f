/-
  Layer 12: the contracts of leaver, and of the function that it makes.
-/
import Derived.Test.YtlembfhdljmcoaaDoorMb12
set_option linter.unusedSimpArgs false
set_option linter.unusedVariables false
namespace Go.Proofs.YtlembfhdljmcoaaDoor
set_option maxRecDepth 20000
open Go.RowKit Go.Maps

namespace Bd
open Rf Sm
theorem box_cell {w : World} {b : Nat} {v : Value} {t : TypeId} (h : Rg.Own w b #[v] t) : w.cell? ⟨b, 0, none⟩ = some v := own_at h rfl
theorem run_stJ {ev : Operand → Value} {o : Oper} {w : World} {b off : Nat} {cs : Array Value} {t : TypeId} (h : Rg.Own w b cs t) (hof : off < cs.size) (m : Option Nat) (ho : ∃ p q, o.op = .store 62 p q ∧ ev p = .pointer (some ⟨b, off, none⟩) ∧ ev q = .map m) : (execOp ev o).run Tryd.prog w = .ok .skip (w.setCell ⟨b, off, none⟩ (.map m)) := by
  obtain ⟨p, q, ho, hp, hq⟩ := ho
  have hc : w.cell? ⟨b, off, none⟩ = some cs[off] := own_at h (Array.getElem?_eq_getElem hof)
  have hz : w.frozen? ⟨b, off, none⟩ = false := own_free h
  have hst : (Instr.storeAt 62 (.pointer (some ⟨b, off, none⟩)) (.map m)).run Tryd.prog w = .ok () (w.setCell ⟨b, off, none⟩ (.map m)) := by
    simp [go_sem, hc, hz]
  unfold execOp
  simp only [ho, hp, hq, Sem.run_bind, Sem.run_pure, Result.andThen_ok, hst]
theorem run_alloc_im (ev : Operand → Value) (o : Oper) (w : World) (b : Nat) (hb : b = w.heap.size) (ho : o.op = .alloc 62) : (execOp ev o).run Tryd.prog w = .ok (.value (.pointer (some ⟨b, 0, none⟩))) (w.alloc (.cells #[.map none] 62)) := by
  subst hb
  unfold execOp
  rw [ho]
  kernel_rfl
section
variable {bb : Nat} {tm hm : Option Nat} {M : Int → Option Nat} {l : List Rw} {tw : Option (ByteArray × ByteArray)} {w : World} {e : Int}
set_option maxHeartbeats 4000000 in
theorem leaver_any {ft : List UInt8 → Option Value} {Nt : Nat} {fi : Int → List UInt8 → Option Value} {Ni : Int → Nat} {Nh : Nat} {n : Int} (g : Sg bb tm hm M ft Nt fi Ni Nh n tw w) (he : W64 e) :
    Calls Tryd.prog 25 #[.pointer (some ⟨bb, 0, none⟩), .int .i64 e] w fun en w' => ∃ c1 c2 c3, en = .returned (.func (Fn.func 35) #[] #[.pointer (some ⟨c1, 0, none⟩), .pointer (some ⟨c2, 0, none⟩), .pointer (some ⟨c3, 0, none⟩)]) ∧
      Lv w' bb e (M e) c1 c2 c3 ∧ (w.heap.size ≤ c1 ∧ w.heap.size ≤ c2 ∧ w.heap.size ≤ c3) ∧ Below w.heap.size w w' := by
  have HE := Lib.hid he
  have hmf : ∀ (fn : Fn) (first cap : Array Value) (w : World), (Instr.makeFunc fn first cap).run Tryd.prog w = .ok (.func fn first cap) w := fun _ _ _ _ => rfl
  obtain ⟨wG, hwG⟩ : ∃ wG, wG = (w.alloc (.cells #[.pointer (some ⟨bb, 0, none⟩)] 23)).alloc (.cells #[.int .i64 e] 3) := ⟨_, rfl⟩
  have hbG : Below w.heap.size w wG := by rw [hwG]; exact al2 _ _ _
  have HBG := Lib.hid hbG
  have HGG := Lib.hid (g.below hbG)
  have HO2 : Hid (Rg.Own wG w.heap.size #[.pointer (some ⟨bb, 0, none⟩)] 23) := Lib.hid (by rw [hwG]; exact (Rg.Own.new _ _ _).below (al1 _ _))
  have HO3 : Hid (Rg.Own wG (w.heap.size + 1) #[.int .i64 e] 3) := Lib.hid (by
    have := Rg.Own.new (w.alloc (.cells #[.pointer (some ⟨bb, 0, none⟩)] 23)) #[.int .i64 e] 3
    rw [hwG]
    simpa using this)
  have HWG := Lib.hid hwG
  clear g he hwG hbG
  go_enter Tryd.func25, Tryd.ntmps25
  go_wp2_with fail
  rw [← HWG.out]
  obtain ⟨c2, hc2⟩ : ∃ g, w.heap.size = g := ⟨_, rfl⟩
  obtain ⟨c3, hc3⟩ : ∃ g, w.heap.size + 1 = g := ⟨_, rfl⟩
  have HC : Hid (w.heap.size ≤ c2 ∧ w.heap.size ≤ c3) := Lib.hid ⟨by omega, by omega⟩
  rw [hc3] at HO3 ⊢
  rw [hc2] at HO2 ⊢
  clear hc2 hc3 HWG
  refine wp_region_noPanic ?_
  refine wp_region_held_drew (S := fun wz => Rg.Own wz c2 #[.pointer (some ⟨bb, 0, none⟩)] 23 ∧ Rg.Own wz c3 #[.int .i64 e] 3 ∧ Rg.Own wz bb (objA tm hm n tw) 56 ∧ MoH wz hm (hF M) Nh) (by kernel_rfl) (⟨HO2.out, HO3.out, HGG.out.own, HGG.out.hd.same fun _ _ => rfl⟩) (fun hHeld => ?_)
  refine Rg.takeL (i := 0) (v := ?_) rfl (by kernel_rfl) (by kernel_rfl) (by kernel_rfl) (fun _ _ _ h => h) (Or.inl ⟨by rfl, ?_⟩) (by assumption) ?_
  rotate_left
  · (intro wz hSw; (have q0 := box_cell hSw.1; go_simp <;> with_reducible rfl))
  try simp only [Act.put, List.setIfInBounds_toArray, List.set_cons_zero, List.set_cons_succ]
  refine Rg.takeL (i := 1) (v := ?_) rfl (by kernel_rfl) (by kernel_rfl) (by kernel_rfl) (fun _ _ _ h => h) (Or.inl ⟨by rfl, ?_⟩) (by assumption) ?_
  rotate_left
  · (intro wz hSw; (try dsimp only at hSw); go_simp <;> with_reducible rfl)
  try simp only [Act.put, List.setIfInBounds_toArray, List.set_cons_zero, List.set_cons_succ]
  refine Rg.takeL (i := 2) (v := ?_) rfl (by kernel_rfl) (by kernel_rfl) (by kernel_rfl) (fun _ _ _ h => h) (Or.inl ⟨by rfl, ?_⟩) (by assumption) ?_
  rotate_left
  · (intro wz hSw; (try dsimp only at hSw); go_simp <;> with_reducible rfl)
  try simp only [Act.put, List.setIfInBounds_toArray, List.set_cons_zero, List.set_cons_succ]
  refine Rg.takeL (i := 3) (v := ?_) rfl (by kernel_rfl) (by kernel_rfl) (by kernel_rfl) (fun _ _ _ h => h) (Or.inl ⟨by rfl, ?_⟩) (by assumption) ?_
  rotate_left
  · (intro wz hSw; (have q0 := ob1 hSw.2.2.1; go_simp <;> with_reducible rfl))
  try simp only [Act.put, List.setIfInBounds_toArray, List.set_cons_zero, List.set_cons_succ]
  refine Rg.takeL (i := 4) (v := ?_) rfl (by kernel_rfl) (by kernel_rfl) (by kernel_rfl) (fun _ _ _ h => h) (Or.inl ⟨by rfl, ?_⟩) (by assumption) ?_
  rotate_left
  · (intro wz hSw; (have q0 := box_cell hSw.2.1; go_simp <;> with_reducible rfl))
  try simp only [Act.put, List.setIfInBounds_toArray, List.set_cons_zero, List.set_cons_succ]
  refine Rg.takeL (i := 5) (v := ?_) rfl (by kernel_rfl) (by kernel_rfl) (by kernel_rfl) (fun _ _ _ h => h) (Or.inl ⟨by rfl, ?_⟩) (by assumption) ?_
  rotate_left
  · (intro wz hSw; (refine op_lookH' hSw.2.2.2 HE.out rfl ?_; exact ⟨_, _, rfl, rfl, rfl⟩))
  try simp only [Act.put, List.setIfInBounds_toArray, List.set_cons_zero, List.set_cons_succ]
  refine wpAnyH_ready (rs := [6]) (by kernel_rfl) (by simp) ?_
  refine Rg.readyL (i := 6) rfl (fun K hK => ?_)
  refine Rg.meetAlloc (by rfl) (run_alloc_im _ _ _ _ rfl rfl) ?_
  rintro wv b9 he9 h9 hbx
  have HG9 : Hid (b9 = wG.heap.size) := Lib.hid he9
  have HO9 := Lib.hid h9
  have HB9 : Hid (Below wG.heap.size wG wv) := Lib.hid ((Below.refl _ _).drew.trans hbx)
  clear he9 h9
  refine hK.out _ _ ?_ (fun hHeld => ?_)
  · exact ⟨HO2.out.below HB9.out, HO3.out.below HB9.out, HGG.out.own.below HB9.out, HGG.out.hd.same fun b e => HB9.out.block b (HGG.out.hd.lt e)⟩
  clear hK K hbx
  try simp only [Act.put, List.setIfInBounds_toArray, List.set_cons_zero, List.set_cons_succ]
  refine wpAnyH_ready (rs := [7]) (by kernel_rfl) (by simp) ?_
  refine Rg.readyL (i := 7) rfl (fun K hK => ?_)
  refine elimM (R := fun w' => Rg.Own w' b9 #[.map (M e)] 62 ∧ Rg.Upd wv b9 w') (by rfl) ⟨_, run_stJ HO9.out (by simp) (M e) ⟨_, _, rfl, rfl, rfl⟩, own_set HO9.out _, upd_set _ _ _ _⟩ ?_
  rintro wu ⟨hn, hu⟩
  have HU9 := Lib.hid hu
  have HO10 := Lib.hid hn
  have HB10 : Hid (Below wG.heap.size wG wu) := Lib.hid (hu.below HB9.out (by rw [HG9.out]; exact Nat.le_refl _))
  refine hK.out _ _ ?_ (fun hHeld => ?_)
  · exact ⟨HO2.out.below HB10.out, HO3.out.below HB10.out, HGG.out.own.below HB10.out, HGG.out.hd.same fun b e => HB10.out.block b (HGG.out.hd.lt e)⟩
  clear hK K hn hu
  try simp only [Act.put, List.setIfInBounds_toArray, List.set_cons_zero, List.set_cons_succ]
  refine wpAnyH_done (by kernel_rfl) ?_ _
  refine NoPanic.normal ?_
  clear hHeld
  have HRes : Hid (∃ d1 d2 d3, (Ending.returned (.func (Fn.func 35) #[] #[.pointer (some ⟨b9, 0, none⟩), .pointer (some ⟨c2, 0, none⟩), .pointer (some ⟨c3, 0, none⟩)])) = .returned (.func (Fn.func 35) #[] #[.pointer (some ⟨d1, 0, none⟩), .pointer (some ⟨d2, 0, none⟩), .pointer (some ⟨d3, 0, none⟩)]) ∧
      Lv wu bb e (M e) d1 d2 d3 ∧ (w.heap.size ≤ d1 ∧ w.heap.size ≤ d2 ∧ w.heap.size ≤ d3) ∧ Below w.heap.size w wu) := Lib.hid ⟨b9, c2, c3, rfl, ⟨HO10.out, HO2.out.below HB10.out, HO3.out.below HB10.out⟩, ⟨by have := HBG.out.size; have := HG9.out; omega, HC.out.1, HC.out.2⟩, HBG.out.trans (HB10.out.mono HBG.out.size)⟩
  clear HO9 HO10 HB9 HU9
  go_wp2
  go_ret
  exact HRes.out
/-- what the function that leaver makes tells and does -/
def LeaveP (bb : Nat) (tm hm : Option Nat) (M : Int → Option Nat) (l : List Rw) (tw : Option (ByteArray × ByteArray)) (e : Int) (s : ByteArray) (m c1 c2 c3 : Nat) (w : World) (en : Ending) (w' : World) : Prop :=
  en = .returned (.bool (decide (0 < epN (delR l e s) s))) ∧ (∃ M', St bb tm hm M' (delR l e s) tw w' ∧ (∀ k, KS bb tm hm M' k → KS bb tm hm M k) ∧ (0 < exN (delR l e s) e → M' = M) ∧ FrK (KS bb tm hm M) (KS bb tm hm M') w w') ∧ Lv w' bb e (some m) c1 c2 c3 ∧
    ∃ ty w1, (Builtin.delete_ #[62, 43] ty #[.map (some m), kcV (sumB s)]).run Tryd.prog (w.alloc (.cells (kc (sumB s)) 43)) = .ok (.tuple #[]) w1 ∧ w'.heap[m]? = w1.heap[m]?
theorem ks_out {k : Nat} (h : KS bb tm hm (fun e' => if e' = e then none else M e') k) : KS bb tm hm M k := by
  rcases h with h | h | h | ⟨e', h⟩
  · exact .inl h
  · exact .inr (.inl h)
  · exact .inr (.inr (.inl h))
  · have h : (if e' = e then none else M e') = some k := h
    split at h
    · cases h
    · exact .inr (.inr (.inr ⟨e', h⟩))
theorem op_lenI' {ev : Operand → Value} {o : Oper} {mo : Option Nat} {N N1 : Nat} {f : List UInt8 → Option Value} (h : MoS w mo f N) (hN : N = N1) (ho : ∃ m, o.op = Op.call { callee := Callee.builtin Builtin.len, args := #[m], argTypes := #[62] } ∧ ev m = .map mo) : (execOp ev o).run Tryd.prog w = .ok (.value (.int .i64 N1)) w := hN ▸ op_lenI h ho
theorem own_e {b : Nat} {cs : Array Value} {T : TypeId} {g : World} (h : Rg.Own w b cs T) (e : g = w) : Rg.Own g b cs T := e ▸ h
set_option maxHeartbeats 8000000 in
theorem leave_lg {t h m c1 c2 c3 : Nat} {s : ByteArray} (hS : St bb (some t) (some h) M l tw w) (hr : hasR l e s = true) (he : W64 e) (hl : l.length ≤ 40) (hz : ∀ r ∈ l, r.s.size ≤ 200) (lv : Lv w bb e (some m) c1 c2 c3) (hM : M e = some m) (hc : ∀ k, k = c1 ∨ k = c2 ∨ k = c3 → ¬ KS bb (some t) (some h) M k) (hE : exN (delR l e s) e = 0) (hT : epN (delR l e s) s = 0) :
    Calls Tryd.prog 35 #[.agg (kc (sumB s)), .pointer (some ⟨c1, 0, none⟩), .pointer (some ⟨c2, 0, none⟩), .pointer (some ⟨c3, 0, none⟩)] w (LeaveP bb (some t) (some h) M l tw e s m c1 c2 c3 w) := by
  obtain ⟨Nh, hNe, g⟩ := hS.g
  obtain ⟨f1, f2, f3, f4, f5⟩ := del_fix hS.u hS.o hr
  have HE := Lib.hid he
  have HM := Lib.hid hM
  have HX : Hid (L32 (sumB s)) := Lib.hid (sumB_length s)
  have HU := Lib.hid hS.u
  have HO := Lib.hid hS.o
  have HR := Lib.hid hr
  have HFull := Lib.hid hS.full
  have HNe := Lib.hid hNe
  have HCc := Lib.hid hc
  have HEx := Lib.hid hE
  have HTx := Lib.hid hT
  have hrow : ∃ r ∈ l, r.s = s := by obtain ⟨r, h1, _, h2⟩ := hasR_iff.1 hr; exact ⟨r, h1, h2⟩
  have HSs : Hid (s.size ≤ 200) := Lib.hid (by obtain ⟨r, h1, h2⟩ := hrow; rw [← h2]; exact hz r h1)
  have HN8 : Hid (sizeT (textsR l) ≤ 8000) := Lib.hid (by
    have h1 := sizeT_le (T := textsR l) (fun t ht => by
      obtain ⟨r, hr, rfl⟩ := mem_texts.1 ht
      exact hz r hr) (textsR l).length
    rw [List.take_length] at h1
    have := texts_le l
    omega)
  have HNt : Hid ((textsR l).length < maxLen) := Lib.hid (by have := texts_le l; unfold maxLen; omega)
  have HQ : Hid (epN (delR l e s) s ≤ 40) := Lib.hid (by have := ep_le l s; omega)
  have HVt : Hid ((ftx l (sumB s)).getD (bodyV eB 0) = .agg (bodyA s (epN (delR l e s) s + 1))) := Lib.hid (by
    obtain ⟨r, h1, h2⟩ := hrow
    rw [ftx_at hS.o h1 h2, f5]
    rfl)
  have HGd : Hid (∀ wG w1, Sg bb (some t) (some h) M (ftx l) (textsR l).length (fix_ l) (exN l) Nh (sizeT (textsR l)) tw wG → MoS w1 (some m) (setF (fix_ l e) (sumB s) none) (fewer (fix_ l e) (sumB s) (exN l e)) → Rg.Upd wG m w1 → Sg bb (some t) (some h) M (ftx l) (textsR l).length (fix_ (delR l e s)) (exN (delR l e s)) Nh (sizeT (textsR l)) tw w1 ∧ MoS w1 (some m) (fix_ (delR l e s) e) (exN (delR l e s) e)) := Lib.hid fun wG w1 g h1 h2 => by
    have h3 : Sg bb (some t) (some h) M (ftx l) (textsR l).length (fix_ (delR l e s)) (exN (delR l e s)) Nh (sizeT (textsR l)) tw w1 := (g.sums hM h2 (by rw [hM]; exact h1)).congr (fun _ _ => rfl) rfl (fun e' y _ => by
      rw [f1]
      split <;> rfl) (fun e' => by
      by_cases q : e' = e
      · subst q; rw [if_pos rfl, f3]
      · rw [if_neg q, f4 e' q]) rfl
    have h4 := h3.inn e
    rw [hM] at h4
    exact ⟨h3, h4⟩
  have HGo : Hid (∀ w1 w2, Sg bb (some t) (some h) M (ftx l) (textsR l).length (fix_ (delR l e s)) (exN (delR l e s)) Nh (sizeT (textsR l)) tw w1 → MoH w2 (some h) (setF (hF M) e none) (fewer (hF M) e Nh) → Rg.Upd w1 h w2 → Sg bb (some t) (some h) (fun e' => if e' = e then none else M e') (ftx l) (textsR l).length (fix_ (delR l e s)) (exN (delR l e s)) (fewer (hF M) e Nh) (sizeT (textsR l)) tw w2) := Lib.hid fun w1 w2 g h1 h2 => g.out rfl h2 (by rw [hF_set]; exact h1) hE fun x _ => fix_none fun r h3 h4 => by have := ex_pos.2 ⟨r, h3, h4⟩; omega
  obtain ⟨x, hx⟩ : ∃ x, sumB s = x := ⟨_, rfl⟩
  have HXs := Lib.hid hx
  obtain ⟨l', hl'⟩ : ∃ l', delR l e s = l' := ⟨_, rfl⟩
  have HL' := Lib.hid hl'
  obtain ⟨n, hn⟩ : ∃ n : Nat, sizeT (textsR l) = n := ⟨_, rfl⟩
  have HNn := Lib.hid hn
  rw [hn] at g HN8 HGd
  rw [hx] at HX HVt HGd
  rw [hl'] at HEx HTx HQ HVt HGd
  rw [hn, hl'] at HGo
  rw [HTx.out] at HVt
  obtain ⟨k, hk⟩ : ∃ k, kc x = k := ⟨_, rfl⟩
  have HKx := Lib.hid hk
  obtain ⟨wG, hwG⟩ : ∃ wG, wG = w.alloc (.cells k 43) := ⟨_, rfl⟩
  have hbG : Below w.heap.size w wG := by rw [hwG]; exact al1 _ _
  have HBG := Lib.hid hbG
  have HGG := Lib.hid (g.below hbG)
  have HIm : Hid (MoS wG (some m) (fix_ l e) (exN l e)) := Lib.hid (by have := (g.below hbG).inn e; rwa [hM] at this)
  have HLv := Lib.hid (lv.below hbG)
  have HO0 : Hid (Rg.Own wG w.heap.size k 43) := Lib.hid (by rw [hwG]; exact Rg.Own.new _ _ _)
  have HLt : Hid (∀ k, KS bb (some t) (some h) M k → k < w.heap.size) := Lib.hid g.lt
  have HWG := Lib.hid hwG
  have HLvs : Hid (c1 < w.heap.size ∧ c2 < w.heap.size ∧ c3 < w.heap.size) := Lib.hid ⟨lv.a.1, lv.b.1, lv.c.1⟩
  have q1 := lv1 (lv.below hbG)
  rw [hwG] at q1
  rw [hx, hk]
  clear hS hr he hl hz lv hM hc hE hT hNe g f1 f2 f3 f4 f5 hrow hx hl' hn hk hwG hbG
  have HN1 : Hid (exN l' e = 0) := HEx
  go_enter Tryd.func35, Tryd.ntmps35
  go_wp2_with (first
    | (refine Rg.run rfl _ _ (op_ldK HX.out HKx.out (own_e HO0.out HWG.out.symm) ⟨_, rfl, rfl⟩) ?_)
    | (at_delete; rw [← HWG.out]; refine elimWv rfl (run_delI HIm.out HX.out HKx.out ⟨_, _, rfl, rfl, rfl⟩) ?_; rintro w1 ⟨hm1, hu1, hrun1⟩; have HG1 := Lib.hid (HGd.out _ _ HGG.out hm1 hu1).1; have HI1 := Lib.hid (HGd.out _ _ HGG.out hm1 hu1).2; have HU1 := Lib.hid hu1; have HRun := Lib.hid hrun1; have hcm := HCc.out; have hmk : KS bb (some t) (some h) M m := .inr (.inr (.inr ⟨e, HM.out⟩))
       have HLv1 := Lib.hid (HLv.out.off hu1 (fun g => hcm _ (.inl rfl) (by rw [g]; exact hmk)) (fun g => hcm _ (.inr (.inl rfl)) (by rw [g]; exact hmk)) (fun g => hcm _ (.inr (.inr rfl)) (by rw [g]; exact hmk))); have q2 := lv1 HLv1.out; have HO1 := Lib.hid (HO0.out.upd hu1 (fun g => by have := HLt.out _ hmk; omega)); clear hm1 hu1 hrun1 hcm hmk)
    | (at_len; refine Rg.run rfl _ _ (op_lenI' HI1.out HN1.out ⟨_, rfl, rfl⟩) ?_))
  obtain ⟨g0, hg0⟩ : ∃ g, w.heap.size = g := ⟨_, rfl⟩
  have HG0 : Hid (g0 = w.heap.size) := Lib.hid hg0.symm
  rw [hg0] at HO0 HO1 ⊢
  have hKm : KS bb (some t) (some h) M m := .inr (.inr (.inr ⟨e, HM.out⟩))
  have HFr1 := Lib.hid (((FrK.start (KS bb (some t) (some h) M) w).more HBG.out).upd HU1.out (.inl hKm))
  have HKm := Lib.hid hKm
  have HNh3 : Hid (c1 ≠ h ∧ c2 ≠ h ∧ c3 ≠ h) := Lib.hid (by
    have hcm := HCc.out
    exact ⟨fun g => hcm _ (.inl rfl) (by rw [g]; exact .inr (.inr (.inl rfl))), fun g => hcm _ (.inr (.inl rfl)) (by rw [g]; exact .inr (.inr (.inl rfl))), fun g => hcm _ (.inr (.inr rfl)) (by rw [g]; exact .inr (.inr (.inl rfl)))⟩)
  have HNt3 : Hid (c1 ≠ t ∧ c2 ≠ t ∧ c3 ≠ t) := Lib.hid (by
    have hcm := HCc.out
    exact ⟨fun g => hcm _ (.inl rfl) (by rw [g]; exact .inr (.inl rfl)), fun g => hcm _ (.inr (.inl rfl)) (by rw [g]; exact .inr (.inl rfl)), fun g => hcm _ (.inr (.inr rfl)) (by rw [g]; exact .inr (.inl rfl))⟩)
  have HNb3 : Hid (c1 ≠ bb ∧ c2 ≠ bb ∧ c3 ≠ bb) := Lib.hid (by
    have hcm := HCc.out
    exact ⟨fun g => hcm _ (.inl rfl) (by rw [g]; exact .inl rfl), fun g => hcm _ (.inr (.inl rfl)) (by rw [g]; exact .inl rfl), fun g => hcm _ (.inr (.inr rfl)) (by rw [g]; exact .inl rfl)⟩)
  clear hg0 hKm q1 q2
  refine wp_region_noPanic ?_
  refine wp_region_held_drew (S := fun wz => Rg.Own wz c2 #[.pointer (some ⟨bb, 0, none⟩)] 23 ∧ Rg.Own wz c3 #[.int .i64 e] 3 ∧ Rg.Own wz bb (objA (some t) (some h) n tw) 56) (by kernel_rfl) (⟨HLv1.out.b, HLv1.out.c, HG1.out.own⟩) (fun hHeld => ?_)
  refine Rg.takeL (i := 0) (v := ?_) rfl (by kernel_rfl) (by kernel_rfl) (by kernel_rfl) (fun _ _ _ h => h) (Or.inl ⟨by rfl, ?_⟩) (by assumption) ?_
  rotate_left
  · (intro wz hSw; (have q0 := box_cell hSw.1; go_simp <;> with_reducible rfl))
  try simp only [Act.put, List.setIfInBounds_toArray, List.set_cons_zero, List.set_cons_succ]
  refine Rg.takeL (i := 1) (v := ?_) rfl (by kernel_rfl) (by kernel_rfl) (by kernel_rfl) (fun _ _ _ h => h) (Or.inl ⟨by rfl, ?_⟩) (by assumption) ?_
  rotate_left
  · (intro wz hSw; (try dsimp only at hSw); go_simp <;> with_reducible rfl)
  try simp only [Act.put, List.setIfInBounds_toArray, List.set_cons_zero, List.set_cons_succ]
  refine Rg.takeL (i := 2) (v := ?_) rfl (by kernel_rfl) (by kernel_rfl) (by kernel_rfl) (fun _ _ _ h => h) (Or.inl ⟨by rfl, ?_⟩) (by assumption) ?_
  rotate_left
  · (intro wz hSw; (try dsimp only at hSw); go_simp <;> with_reducible rfl)
  try simp only [Act.put, List.setIfInBounds_toArray, List.set_cons_zero, List.set_cons_succ]
  refine Rg.takeL (i := 3) (v := ?_) rfl (by kernel_rfl) (by kernel_rfl) (by kernel_rfl) (fun _ _ _ h => h) (Or.inl ⟨by rfl, ?_⟩) (by assumption) ?_
  rotate_left
  · (intro wz hSw; (have q0 := ob1 hSw.2.2; go_simp <;> with_reducible rfl))
  try simp only [Act.put, List.setIfInBounds_toArray, List.set_cons_zero, List.set_cons_succ]
  refine Rg.takeL (i := 4) (v := ?_) rfl (by kernel_rfl) (by kernel_rfl) (by kernel_rfl) (fun _ _ _ h => h) (Or.inl ⟨by rfl, ?_⟩) (by assumption) ?_
  rotate_left
  · (intro wz hSw; (have q0 := box_cell hSw.2.1; go_simp <;> with_reducible rfl))
  try simp only [Act.put, List.setIfInBounds_toArray, List.set_cons_zero, List.set_cons_succ]
  refine wpAnyH_ready (rs := [5]) (by kernel_rfl) (by simp) ?_
  refine Rg.readyL (i := 5) rfl (fun K hK => ?_)
  refine elimMv (by rfl) (run_delH (HG1.out.hd.same (w' := w1.drew) fun _ _ => rfl) HE.out ⟨_, _, rfl, rfl, rfl⟩) ?_
  rintro w2 ⟨hm2, hu2⟩
  have HU2 := Lib.hid (upd_drew hu2)
  have HG2 := Lib.hid (HGo.out _ _ HG1.out hm2 HU2.out)
  refine hK.out _ _ ?_ (fun hHeld => ?_)
  · exact ⟨(HLv1.out.off HU2.out (HNh3.out.1) (HNh3.out.2.1) (HNh3.out.2.2)).b, (HLv1.out.off HU2.out (HNh3.out.1) (HNh3.out.2.1) (HNh3.out.2.2)).c, HG2.out.own⟩
  clear hK K hm2 hu2
  try simp only [Act.put, List.setIfInBounds_toArray, List.set_cons_zero, List.set_cons_succ]
  refine wpAnyH_done (by kernel_rfl) ?_ _
  refine NoPanic.normal ?_
  clear hHeld
  have HFr2 : Hid (FrK (KS bb (some t) (some h) M) (KS bb (some t) (some h) (fun e' => if e' = e then none else M e')) w w2) := Lib.hid ((HFr1.out.upd HU2.out (.inl (.inr (.inr (.inl rfl))))).wide fun k hk => .inl (ks_out hk))
  have HMk : Hid (∀ k, KS bb (some t) (some h) (fun e' => if e' = e then none else M e') k → KS bb (some t) (some h) M k) := Lib.hid fun k hk => ks_out hk
  have HMs : Hid (0 < exN l' e → (fun e' => if e' = e then none else M e') = M) := Lib.hid fun g => by have := HEx.out; omega
  have HFu2 : Hid (∀ e' m', (fun e' => if e' = e then none else M e') e' = some m' → 0 < exN l' e') := Lib.hid fun e' m' hh => by
    have hh : (if e' = e then none else M e') = some m' := hh
    split at hh
    · cases hh
    · rename_i hne
      have := (del_fix HU.out HO.out HR.out).2.2.2.1 e' hne
      rw [HL'.out] at this
      rw [this]
      exact HFull.out e' m' hh
  have HNh2 : Hid (fewer (hF M) e Nh = (epochsR l').length) := Lib.hid (by
    have h1 := (del_epochs HU.out HR.out).2
    rw [HL'.out] at h1
    have h2 := h1 HEx.out
    have h3 := HNe.out
    unfold fewer hF
    rw [HM.out]
    simp
    omega)
  have HBm : Hid (w2.heap[m]? = w1.heap[m]?) := Lib.hid (HU2.out.block m fun g => (HG1.out.ap.m e m HM.out).2.2 (by rw [g]))
  have HLv2 := Lib.hid (HLv1.out.off HU2.out (HNh3.out.1) (HNh3.out.2.1) (HNh3.out.2.2))
  have HO2 := Lib.hid (HO1.out.upd HU2.out (fun g => by have := HLt.out h (.inr (.inr (.inl rfl))); have := HG0.out; omega))
  obtain ⟨M2, hM2⟩ : ∃ M2, M2 = fun e' => if e' = e then none else M e' := ⟨_, rfl⟩
  obtain ⟨Nh2, hN2⟩ : ∃ N, N = fewer (hF M) e Nh := ⟨_, rfl⟩
  rw [← hM2] at HG2 HFr2 HMk HMs HFu2
  rw [← hN2] at HG2 HNh2
  clear hM2 hN2 HG1 HLv1 HO1 HFr1 HU2
  go_wp2_with fail
  refine wp_region_noPanic ?_
  refine wp_region_held_drew (S := fun wz => Rg.Own wz c2 #[.pointer (some ⟨bb, 0, none⟩)] 23 ∧ Rg.Own wz bb (objA (some t) (some h) n tw) 56 ∧ Rg.Own wz g0 k 43 ∧ MoS wz (some t) (ftx l) (textsR l).length) (by kernel_rfl) (⟨HLv2.out.b, HG2.out.own, HO2.out, HG2.out.tx.same fun _ _ => rfl⟩) (fun hHeld => ?_)
  refine Rg.takeL (i := 0) (v := ?_) rfl (by kernel_rfl) (by kernel_rfl) (by kernel_rfl) (fun _ _ _ h => h) (Or.inl ⟨by rfl, ?_⟩) (by assumption) ?_
  rotate_left
  · (intro wz hSw; (have q0 := box_cell hSw.1; go_simp <;> with_reducible rfl))
  try simp only [Act.put, List.setIfInBounds_toArray, List.set_cons_zero, List.set_cons_succ]
  refine Rg.takeL (i := 1) (v := ?_) rfl (by kernel_rfl) (by kernel_rfl) (by kernel_rfl) (fun _ _ _ h => h) (Or.inl ⟨by rfl, ?_⟩) (by assumption) ?_
  rotate_left
  · (intro wz hSw; (try dsimp only at hSw); go_simp <;> with_reducible rfl)
  try simp only [Act.put, List.setIfInBounds_toArray, List.set_cons_zero, List.set_cons_succ]
  refine Rg.takeL (i := 2) (v := ?_) rfl (by kernel_rfl) (by kernel_rfl) (by kernel_rfl) (fun _ _ _ h => h) (Or.inl ⟨by rfl, ?_⟩) (by assumption) ?_
  rotate_left
  · (intro wz hSw; (try dsimp only at hSw); go_simp <;> with_reducible rfl)
  try simp only [Act.put, List.setIfInBounds_toArray, List.set_cons_zero, List.set_cons_succ]
  refine Rg.takeL (i := 3) (v := ?_) rfl (by kernel_rfl) (by kernel_rfl) (by kernel_rfl) (fun _ _ _ h => h) (Or.inl ⟨by rfl, ?_⟩) (by assumption) ?_
  rotate_left
  · (intro wz hSw; (have q0 := ob0 hSw.2.1; go_simp <;> with_reducible rfl))
  try simp only [Act.put, List.setIfInBounds_toArray, List.set_cons_zero, List.set_cons_succ]
  refine Rg.takeL (i := 4) (v := ?_) rfl (by kernel_rfl) (by kernel_rfl) (by kernel_rfl) (fun _ _ _ h => h) (Or.inl ⟨by rfl, ?_⟩) (by assumption) ?_
  rotate_left
  · (intro wz hSw; (refine op_ldK HX.out HKx.out hSw.2.2.1 ?_; exact ⟨_, rfl, rfl⟩))
  try simp only [Act.put, List.setIfInBounds_toArray, List.set_cons_zero, List.set_cons_succ]
  refine Rg.takeL (i := 5) (v := ?_) rfl (by kernel_rfl) (by kernel_rfl) (by kernel_rfl) (fun _ _ _ h => h) (Or.inl ⟨by rfl, ?_⟩) (by assumption) ?_
  rotate_left
  · (intro wz hSw; (refine op_lookT' (V := .agg (bodyA s (0 + 1))) hSw.2.2.2 HX.out HKx.out HVt.out ?_; exact ⟨_, _, rfl, rfl, rfl⟩))
  try simp only [Act.put, List.setIfInBounds_toArray, List.set_cons_zero, List.set_cons_succ]
  refine wpAnyH_ready (rs := [6]) (by kernel_rfl) (by simp) ?_
  refine Rg.readyL (i := 6) rfl (fun K hK => ?_)
  refine Rg.meetAlloc (by rfl) (run_alloc_body _ _ _ _ rfl rfl) ?_
  rintro wv b9 he9 h9 hbx
  have HG9 : Hid (b9 = w2.heap.size) := Lib.hid he9
  have HB9 : Hid (Below w2.heap.size w2 wv) := Lib.hid ((Below.refl _ _).drew.trans hbx)
  clear he9
  refine hK.out _ _ ?_ (fun hHeld => ?_)
  · exact ⟨(HLv2.out.below HB9.out).b, HG2.out.own.below HB9.out, HO2.out.below HB9.out, HG2.out.tx.same fun b e => HB9.out.block b (HG2.out.tx.lt e)⟩
  clear hK K hbx
  try simp only [Act.put, List.setIfInBounds_toArray, List.set_cons_zero, List.set_cons_succ]
  refine wpAnyH_ready (rs := [7]) (by kernel_rfl) (by simp) ?_
  refine Rg.readyL (i := 7) rfl (fun K hK => ?_)
  refine Rg.meetStore (by rfl) h9 68 (bodyA s (0 + 1)) ⟨_, _, rfl, rfl, rfl⟩ info_body rfl (bodyA_one _ _) ?_
  rintro wu hn hu
  have HO9 : Hid (Rg.Own wu b9 (bodyA s (0 + 1)) 68) := Lib.hid hn
  have HB10 : Hid (Below w2.heap.size w2 wu) := Lib.hid (hu.below HB9.out (by rw [HG9.out]; exact Nat.le_refl _))
  refine hK.out _ _ ?_ (fun hHeld => ?_)
  · exact ⟨(HLv2.out.below HB10.out).b, HG2.out.own.below HB10.out, HO2.out.below HB10.out, HG2.out.tx.same fun b e => HB10.out.block b (HG2.out.tx.lt e)⟩
  clear hK K hn hu h9 HB9
  try simp only [Act.put, List.setIfInBounds_toArray, List.set_cons_zero, List.set_cons_succ]
  refine wpAnyH_done (by kernel_rfl) ?_ _
  refine NoPanic.normal ?_
  clear hHeld
  have HG4 := Lib.hid (HG2.out.below HB10.out)
  have HLv4 := Lib.hid (HLv2.out.below HB10.out)
  have HO4 := Lib.hid (HO2.out.below HB10.out)
  have HNB : Hid (¬ KS bb (some t) (some h) M2 b9 ∧ g0 ≠ b9 ∧ c1 ≠ b9 ∧ c2 ≠ b9 ∧ c3 ≠ b9) := Lib.hid (by
    have h1 := HG9.out
    have h2 := HO2.out.1
    have h3 := HLv2.out.a.1
    have h4 := HLv2.out.b.1
    have h5 := HLv2.out.c.1
    exact ⟨fun g => by have := HG2.out.lt _ g; omega, by omega, by omega, by omega, by omega⟩)
  have HFr4 := Lib.hid (HFr2.out.more HB10.out)
  have HBm4 : Hid (wu.heap[m]? = w1.heap[m]?) := Lib.hid ((HB10.out.block m (by have := HLt.out m HKm.out; have := HFr2.out.size; omega)).trans HBm.out)
  have q7 : wu.cell? ⟨b9, 1, none⟩ = some (.int .i64 ((0 + 1 : Nat) : Int)) := bd1 HO9.out
  have q8 : IntKind.i64.wrap (((0 + 1 : Nat) : Int) - 1) = ((0 : Nat) : Int) := by
    simp only [IntKind.wrap_i64, wrap64]
    omega
  go_wp2_with (first
    | (refine elimW (R := fun w' => Rg.Own w' b9 (bodyA s 0) 68 ∧ Rg.Upd wu b9 w') rfl ⟨_, run_stI HO9.out (by simp [bodyA]) _ ⟨_, _, rfl, rfl, rfl⟩, own_set HO9.out _, upd_set _ _ _ _⟩ ?_; rintro wy ⟨hoo, huu⟩; have HOy := Lib.hid hoo; have HUy := Lib.hid huu; have q9 := bd1 hoo; clear hoo huu))
  have HGy := Lib.hid (HG4.out.off HUy.out HNB.out.1)
  have HLvy := Lib.hid (HLv4.out.off HUy.out HNB.out.2.2.1 HNB.out.2.2.2.1 HNB.out.2.2.2.2)
  have HOky := Lib.hid (HO4.out.upd HUy.out HNB.out.2.1)
  have HFry := Lib.hid (HFr4.out.upd HUy.out (.inr (by have := HG9.out; have := HFr2.out.size; omega)))
  have HBmy : Hid (wy.heap[m]? = w1.heap[m]?) := Lib.hid ((HUy.out.block m (fun g => by have := HLt.out m HKm.out; have := HG9.out; have := HFr2.out.size; omega)).trans HBm4.out)
  clear HG4 HLv4 HO4 HFr4 HBm4 HG2 HLv2 HO2 HFr2 HBm
  refine wp_region_noPanic ?_
  refine wp_region_held_drew (S := fun wz => Rg.Own wz c2 #[.pointer (some ⟨bb, 0, none⟩)] 23 ∧ Rg.Own wz bb (objA (some t) (some h) n tw) 56 ∧ Rg.Own wz g0 k 43) (by kernel_rfl) (⟨HLvy.out.b, HGy.out.own, HOky.out⟩) (fun hHeld => ?_)
  refine Rg.takeL (i := 0) (v := ?_) rfl (by kernel_rfl) (by kernel_rfl) (by kernel_rfl) (fun _ _ _ h => h) (Or.inl ⟨by rfl, ?_⟩) (by assumption) ?_
  rotate_left
  · (intro wz hSw; (have q0 := box_cell hSw.1; go_simp <;> with_reducible rfl))
  try simp only [Act.put, List.setIfInBounds_toArray, List.set_cons_zero, List.set_cons_succ]
  refine Rg.takeL (i := 1) (v := ?_) rfl (by kernel_rfl) (by kernel_rfl) (by kernel_rfl) (fun _ _ _ h => h) (Or.inl ⟨by rfl, ?_⟩) (by assumption) ?_
  rotate_left
  · (intro wz hSw; (try dsimp only at hSw); go_simp <;> with_reducible rfl)
  try simp only [Act.put, List.setIfInBounds_toArray, List.set_cons_zero, List.set_cons_succ]
  refine Rg.takeL (i := 2) (v := ?_) rfl (by kernel_rfl) (by kernel_rfl) (by kernel_rfl) (fun _ _ _ h => h) (Or.inl ⟨by rfl, ?_⟩) (by assumption) ?_
  rotate_left
  · (intro wz hSw; (try dsimp only at hSw); go_simp <;> with_reducible rfl)
  try simp only [Act.put, List.setIfInBounds_toArray, List.set_cons_zero, List.set_cons_succ]
  refine Rg.takeL (i := 3) (v := ?_) rfl (by kernel_rfl) (by kernel_rfl) (by kernel_rfl) (fun _ _ _ h => h) (Or.inl ⟨by rfl, ?_⟩) (by assumption) ?_
  rotate_left
  · (intro wz hSw; (have q0 := ob0 hSw.2.1; go_simp <;> with_reducible rfl))
  try simp only [Act.put, List.setIfInBounds_toArray, List.set_cons_zero, List.set_cons_succ]
  refine Rg.takeL (i := 4) (v := ?_) rfl (by kernel_rfl) (by kernel_rfl) (by kernel_rfl) (fun _ _ _ h => h) (Or.inl ⟨by rfl, ?_⟩) (by assumption) ?_
  rotate_left
  · (intro wz hSw; (refine op_ldK HX.out HKx.out hSw.2.2 ?_; exact ⟨_, rfl, rfl⟩))
  try simp only [Act.put, List.setIfInBounds_toArray, List.set_cons_zero, List.set_cons_succ]
  refine wpAnyH_ready (rs := [5]) (by kernel_rfl) (by simp) ?_
  refine Rg.readyL (i := 5) rfl (fun K hK => ?_)
  refine elimMv (by rfl) (run_delT (HGy.out.tx.same (w' := wy.drew) fun _ _ => rfl) HX.out HKx.out ⟨_, _, rfl, rfl, rfl⟩) ?_
  rintro w7 ⟨hm7, hu7⟩
  have HU7 := Lib.hid (upd_drew hu7)
  have HG7 := Lib.hid (HGy.out.texts rfl HU7.out hm7)
  have HLv7 := Lib.hid (HLvy.out.off HU7.out HNt3.out.1 HNt3.out.2.1 HNt3.out.2.2)
  have HO7 := Lib.hid (HOky.out.upd HU7.out (fun g => by have := HLt.out t (.inr (.inl rfl)); have := HG0.out; omega))
  refine hK.out _ _ ?_ (fun hHeld => ?_)
  · exact ⟨HLv7.out.b, HG7.out.own, HO7.out⟩
  clear hK K hm7 hu7
  try simp only [Act.put, List.setIfInBounds_toArray, List.set_cons_zero, List.set_cons_succ]
  refine wpAnyH_done (by kernel_rfl) ?_ _
  refine NoPanic.normal ?_
  clear hHeld
  have HO97 := Lib.hid (HOy.out.upd HU7.out (fun g => HNB.out.1 (.inr (.inl (by rw [g])))))
  have HDn := Lib.hid (del_none (e := e) HU.out HO.out HR.out (by rw [HL'.out]; exact HTx.out))
  obtain ⟨n9, hn9⟩ : ∃ n9, sizeT (textsR l') = n9 := ⟨_, rfl⟩
  have HN9 : Hid (n = s.size + n9) := Lib.hid (by
    have := HDn.out.2.2.2
    rw [HL'.out, HNn.out, hn9] at this
    exact this)
  have HN9e := Lib.hid hn9
  have HW8 : Hid (IntKind.i64.wrap ((n : Int) - (s.size : Int)) = ((n9 : Nat) : Int)) := Lib.hid (by
    have h1 := HN9.out
    have h2 := HN8.out
    simp only [IntKind.wrap_i64, wrap64]
    omega)
  clear hn9 q7 q8 q9
  go_wp2_with fail
  refine wp_region_noPanic ?_
  refine wp_region_held_drew (S := fun wz => Rg.Own wz c2 #[.pointer (some ⟨bb, 0, none⟩)] 23 ∧ Rg.Own wz b9 (bodyA s 0) 68 ∧ True) (by kernel_rfl) (⟨HLv7.out.b, HO97.out, trivial⟩) (fun hHeld => ?_)
  refine Rg.takeL (i := 0) (v := ?_) rfl (by kernel_rfl) (by kernel_rfl) (by kernel_rfl) (fun _ _ _ h => h) (Or.inl ⟨by rfl, ?_⟩) (by assumption) ?_
  rotate_left
  · (intro wz hSw; (have q0 := box_cell hSw.1; go_simp <;> with_reducible rfl))
  try simp only [Act.put, List.setIfInBounds_toArray, List.set_cons_zero, List.set_cons_succ]
  refine Rg.takeL (i := 1) (v := ?_) rfl (by kernel_rfl) (by kernel_rfl) (by kernel_rfl) (fun _ _ _ h => h) (Or.inl ⟨by rfl, ?_⟩) (by assumption) ?_
  rotate_left
  · (intro wz hSw; (try dsimp only at hSw); go_simp <;> with_reducible rfl)
  try simp only [Act.put, List.setIfInBounds_toArray, List.set_cons_zero, List.set_cons_succ]
  refine Rg.takeL (i := 2) (v := ?_) rfl (by kernel_rfl) (by kernel_rfl) (by kernel_rfl) (fun _ _ _ h => h) (Or.inl ⟨by rfl, ?_⟩) (by assumption) ?_
  rotate_left
  · (intro wz hSw; (try dsimp only at hSw); go_simp <;> with_reducible rfl)
  try simp only [Act.put, List.setIfInBounds_toArray, List.set_cons_zero, List.set_cons_succ]
  refine Rg.takeL (i := 4) (v := ?_) rfl (by kernel_rfl) (by kernel_rfl) (by kernel_rfl) (fun _ _ _ h => h) (Or.inl ⟨by rfl, ?_⟩) (by assumption) ?_
  rotate_left
  · (intro wz hSw; (try dsimp only at hSw); go_simp <;> with_reducible rfl)
  try simp only [Act.put, List.setIfInBounds_toArray, List.set_cons_zero, List.set_cons_succ]
  refine Rg.takeL (i := 5) (v := ?_) rfl (by kernel_rfl) (by kernel_rfl) (by kernel_rfl) (fun _ _ _ h => h) (Or.inl ⟨by rfl, ?_⟩) (by assumption) ?_
  rotate_left
  · (intro wz hSw; (have q0 := bd0 hSw.2.1; go_simp <;> with_reducible rfl))
  try simp only [Act.put, List.setIfInBounds_toArray, List.set_cons_zero, List.set_cons_succ]
  refine Rg.takeL (i := 6) (v := ?_) rfl (by kernel_rfl) (by kernel_rfl) (by kernel_rfl) (fun _ _ _ h => h) (Or.inl ⟨by rfl, ?_⟩) (by assumption) ?_
  rotate_left
  · (intro wz hSw; (try dsimp only at hSw); go_simp <;> with_reducible rfl)
  try simp only [Act.put, List.setIfInBounds_toArray, List.set_cons_zero, List.set_cons_succ]
  refine wpAnyH_ready (rs := [3]) (by kernel_rfl) (by simp) ?_
  refine Rg.readyL (i := 3) rfl (fun K hK => ?_)
  have q2 := ob2 HG7.out.own
  go_simp
  refine hK.out _ _ ?_ (fun hHeld => ?_)
  · exact hHeld
  clear hK K q2
  try simp only [Act.put, List.setIfInBounds_toArray, List.set_cons_zero, List.set_cons_succ]
  refine Rg.takeL (i := 7) (v := ?_) rfl (by kernel_rfl) (by kernel_rfl) (by kernel_rfl) (fun _ _ _ h => h) (Or.inl ⟨by rfl, ?_⟩) (by assumption) ?_
  rotate_left
  · (intro wz hSw; (have q0 := HW8.out; go_simp <;> with_reducible rfl))
  try simp only [Act.put, List.setIfInBounds_toArray, List.set_cons_zero, List.set_cons_succ]
  refine Rg.takeL (i := 8) (v := ?_) rfl (by kernel_rfl) (by kernel_rfl) (by kernel_rfl) (fun _ _ _ h => h) (Or.inl ⟨by rfl, ?_⟩) (by assumption) ?_
  rotate_left
  · (intro wz hSw; (try dsimp only at hSw); go_simp <;> with_reducible rfl)
  try simp only [Act.put, List.setIfInBounds_toArray, List.set_cons_zero, List.set_cons_succ]
  refine Rg.takeL (i := 9) (v := ?_) rfl (by kernel_rfl) (by kernel_rfl) (by kernel_rfl) (fun _ _ _ h => h) (Or.inl ⟨by rfl, ?_⟩) (by assumption) ?_
  rotate_left
  · (intro wz hSw; (try dsimp only at hSw); go_simp <;> with_reducible rfl)
  try simp only [Act.put, List.setIfInBounds_toArray, List.set_cons_zero, List.set_cons_succ]
  refine wpAnyH_ready (rs := [10]) (by kernel_rfl) (by simp) ?_
  refine Rg.readyL (i := 10) rfl (fun K hK => ?_)
  refine elimM (R := fun w' => Rg.Own w' bb (objA (some t) (some h) (n9 : Nat) tw) 56 ∧ Rg.Upd w7 bb w') (by rfl) ⟨_, run_stI (w := w7.drew) HG7.out.own (by simp [objA]) (n9 : Nat) ⟨_, _, rfl, rfl, rfl⟩, own_set HG7.out.own.drew _, upd_drew (upd_set _ _ _ _)⟩ ?_
  rintro w8 ⟨hn, hu⟩
  have HG8 := Lib.hid (HG7.out.cells hu hn)
  have HU8 := Lib.hid hu
  refine hK.out _ _ ?_ (fun hHeld => ?_)
  · exact ⟨(HLv7.out.off hu HNb3.out.1 HNb3.out.2.1 HNb3.out.2.2).b, HO97.out.upd hu (fun g => HNB.out.1 (.inl g)), trivial⟩
  clear hK K hn hu
  try simp only [Act.put, List.setIfInBounds_toArray, List.set_cons_zero, List.set_cons_succ]
  refine wpAnyH_done (by kernel_rfl) ?_ _
  refine NoPanic.normal ?_
  clear hHeld
  have HRes : Hid (LeaveP bb (some t) (some h) M l tw e s m c1 c2 c3 w (.returned (.bool false)) w8) := Lib.hid (by
    unfold LeaveP
    have hd := HDn.out
    rw [HL'.out, HXs.out] at hd
    rw [HL'.out, HXs.out, HKx.out, ← HWG.out]
    refine ⟨by rw [HTx.out]; rfl, ⟨M2, ⟨⟨Nh2, HNh2.out, HG8.out.congr (fun y _ => hd.1 y) hd.2.2.1.symm (fun _ _ _ => rfl) (fun _ => rfl) (by rw [HN9e.out])⟩, ?_, ?_, HFu2.out⟩, HMk.out, HMs.out, (HFry.out.upd HU7.out (.inl (.inr (.inl rfl)))).upd HU8.out (.inl (.inl rfl))⟩, HLv7.out.off HU8.out HNb3.out.1 HNb3.out.2.1 HNb3.out.2.2, _, w1, HRun.out, ?_⟩
    · rw [← HL'.out]; exact (oth_del HU.out e s).u'
    · rw [← HL'.out]; exact one_del HO.out e s
    · have hap := HGG.out.ap.m e m HM.out
      exact ((HU8.out.block m hap.1).trans (HU7.out.block m (fun g => hap.2.1 (by rw [g])))).trans HBmy.out)
  clear HU7 HU8 HG8 HG7 HLv7 HO7 HO97
  go_wp2
  go_ret
  exact HRes.out
set_option maxHeartbeats 8000000 in
theorem leave_ls {t h m c1 c2 c3 : Nat} {s : ByteArray} (hS : St bb (some t) (some h) M l tw w) (hr : hasR l e s = true) (he : W64 e) (hl : l.length ≤ 40) (hz : ∀ r ∈ l, r.s.size ≤ 200) (lv : Lv w bb e (some m) c1 c2 c3) (hM : M e = some m) (hc : ∀ k, k = c1 ∨ k = c2 ∨ k = c3 → ¬ KS bb (some t) (some h) M k) (hE : exN (delR l e s) e = 0) (hT : 0 < epN (delR l e s) s) :
    Calls Tryd.prog 35 #[.agg (kc (sumB s)), .pointer (some ⟨c1, 0, none⟩), .pointer (some ⟨c2, 0, none⟩), .pointer (some ⟨c3, 0, none⟩)] w (LeaveP bb (some t) (some h) M l tw e s m c1 c2 c3 w) := by
  obtain ⟨Nh, hNe, g⟩ := hS.g
  obtain ⟨f1, f2, f3, f4, f5⟩ := del_fix hS.u hS.o hr
  have HE := Lib.hid he
  have HM := Lib.hid hM
  have HX : Hid (L32 (sumB s)) := Lib.hid (sumB_length s)
  have HU := Lib.hid hS.u
  have HO := Lib.hid hS.o
  have HR := Lib.hid hr
  have HFull := Lib.hid hS.full
  have HNe := Lib.hid hNe
  have HCc := Lib.hid hc
  have HEx := Lib.hid hE
  have HTx := Lib.hid hT
  have hrow : ∃ r ∈ l, r.s = s := by obtain ⟨r, h1, _, h2⟩ := hasR_iff.1 hr; exact ⟨r, h1, h2⟩
  have HSs : Hid (s.size ≤ 200) := Lib.hid (by obtain ⟨r, h1, h2⟩ := hrow; rw [← h2]; exact hz r h1)
  have HN8 : Hid (sizeT (textsR l) ≤ 8000) := Lib.hid (by
    have h1 := sizeT_le (T := textsR l) (fun t ht => by
      obtain ⟨r, hr, rfl⟩ := mem_texts.1 ht
      exact hz r hr) (textsR l).length
    rw [List.take_length] at h1
    have := texts_le l
    omega)
  have HNt : Hid ((textsR l).length < maxLen) := Lib.hid (by have := texts_le l; unfold maxLen; omega)
  have HQ : Hid (epN (delR l e s) s ≤ 40) := Lib.hid (by have := ep_le l s; omega)
  have HVt : Hid ((ftx l (sumB s)).getD (bodyV eB 0) = .agg (bodyA s (epN (delR l e s) s + 1))) := Lib.hid (by
    obtain ⟨r, h1, h2⟩ := hrow
    rw [ftx_at hS.o h1 h2, f5]
    rfl)
  have HGd : Hid (∀ wG w1, Sg bb (some t) (some h) M (ftx l) (textsR l).length (fix_ l) (exN l) Nh (sizeT (textsR l)) tw wG → MoS w1 (some m) (setF (fix_ l e) (sumB s) none) (fewer (fix_ l e) (sumB s) (exN l e)) → Rg.Upd wG m w1 → Sg bb (some t) (some h) M (ftx l) (textsR l).length (fix_ (delR l e s)) (exN (delR l e s)) Nh (sizeT (textsR l)) tw w1 ∧ MoS w1 (some m) (fix_ (delR l e s) e) (exN (delR l e s) e)) := Lib.hid fun wG w1 g h1 h2 => by
    have h3 : Sg bb (some t) (some h) M (ftx l) (textsR l).length (fix_ (delR l e s)) (exN (delR l e s)) Nh (sizeT (textsR l)) tw w1 := (g.sums hM h2 (by rw [hM]; exact h1)).congr (fun _ _ => rfl) rfl (fun e' y _ => by
      rw [f1]
      split <;> rfl) (fun e' => by
      by_cases q : e' = e
      · subst q; rw [if_pos rfl, f3]
      · rw [if_neg q, f4 e' q]) rfl
    have h4 := h3.inn e
    rw [hM] at h4
    exact ⟨h3, h4⟩
  have HGo : Hid (∀ w1 w2, Sg bb (some t) (some h) M (ftx l) (textsR l).length (fix_ (delR l e s)) (exN (delR l e s)) Nh (sizeT (textsR l)) tw w1 → MoH w2 (some h) (setF (hF M) e none) (fewer (hF M) e Nh) → Rg.Upd w1 h w2 → Sg bb (some t) (some h) (fun e' => if e' = e then none else M e') (ftx l) (textsR l).length (fix_ (delR l e s)) (exN (delR l e s)) (fewer (hF M) e Nh) (sizeT (textsR l)) tw w2) := Lib.hid fun w1 w2 g h1 h2 => g.out rfl h2 (by rw [hF_set]; exact h1) hE fun x _ => fix_none fun r h3 h4 => by have := ex_pos.2 ⟨r, h3, h4⟩; omega
  obtain ⟨x, hx⟩ : ∃ x, sumB s = x := ⟨_, rfl⟩
  have HXs := Lib.hid hx
  obtain ⟨l', hl'⟩ : ∃ l', delR l e s = l' := ⟨_, rfl⟩
  have HL' := Lib.hid hl'
  obtain ⟨n, hn⟩ : ∃ n : Nat, sizeT (textsR l) = n := ⟨_, rfl⟩
  have HNn := Lib.hid hn
  rw [hn] at g HN8 HGd
  rw [hx] at HX HVt HGd
  rw [hl'] at HEx HTx HQ HVt HGd
  rw [hn, hl'] at HGo
  obtain ⟨q, hq⟩ : ∃ q, epN l' s = q := ⟨_, rfl⟩
  rw [hq] at HVt HQ HTx
  have HQq := Lib.hid hq
  obtain ⟨k, hk⟩ : ∃ k, kc x = k := ⟨_, rfl⟩
  have HKx := Lib.hid hk
  obtain ⟨wG, hwG⟩ : ∃ wG, wG = w.alloc (.cells k 43) := ⟨_, rfl⟩
  have hbG : Below w.heap.size w wG := by rw [hwG]; exact al1 _ _
  have HBG := Lib.hid hbG
  have HGG := Lib.hid (g.below hbG)
  have HIm : Hid (MoS wG (some m) (fix_ l e) (exN l e)) := Lib.hid (by have := (g.below hbG).inn e; rwa [hM] at this)
  have HLv := Lib.hid (lv.below hbG)
  have HO0 : Hid (Rg.Own wG w.heap.size k 43) := Lib.hid (by rw [hwG]; exact Rg.Own.new _ _ _)
  have HLt : Hid (∀ k, KS bb (some t) (some h) M k → k < w.heap.size) := Lib.hid g.lt
  have HWG := Lib.hid hwG
  have HLvs : Hid (c1 < w.heap.size ∧ c2 < w.heap.size ∧ c3 < w.heap.size) := Lib.hid ⟨lv.a.1, lv.b.1, lv.c.1⟩
  have q1 := lv1 (lv.below hbG)
  rw [hwG] at q1
  rw [hx, hk]
  clear hS hr he hl hz lv hM hc hE hT hNe g f1 f2 f3 f4 f5 hrow hx hl' hn hq hk hwG hbG
  have HN1 : Hid (exN l' e = 0) := HEx
  go_enter Tryd.func35, Tryd.ntmps35
  go_wp2_with (first
    | (refine Rg.run rfl _ _ (op_ldK HX.out HKx.out (own_e HO0.out HWG.out.symm) ⟨_, rfl, rfl⟩) ?_)
    | (at_delete; rw [← HWG.out]; refine elimWv rfl (run_delI HIm.out HX.out HKx.out ⟨_, _, rfl, rfl, rfl⟩) ?_; rintro w1 ⟨hm1, hu1, hrun1⟩; have HG1 := Lib.hid (HGd.out _ _ HGG.out hm1 hu1).1; have HI1 := Lib.hid (HGd.out _ _ HGG.out hm1 hu1).2; have HU1 := Lib.hid hu1; have HRun := Lib.hid hrun1; have hcm := HCc.out; have hmk : KS bb (some t) (some h) M m := .inr (.inr (.inr ⟨e, HM.out⟩))
       have HLv1 := Lib.hid (HLv.out.off hu1 (fun g => hcm _ (.inl rfl) (by rw [g]; exact hmk)) (fun g => hcm _ (.inr (.inl rfl)) (by rw [g]; exact hmk)) (fun g => hcm _ (.inr (.inr rfl)) (by rw [g]; exact hmk))); have q2 := lv1 HLv1.out; have HO1 := Lib.hid (HO0.out.upd hu1 (fun g => by have := HLt.out _ hmk; omega)); clear hm1 hu1 hrun1 hcm hmk)
    | (at_len; refine Rg.run rfl _ _ (op_lenI' HI1.out HN1.out ⟨_, rfl, rfl⟩) ?_))
  obtain ⟨g0, hg0⟩ : ∃ g, w.heap.size = g := ⟨_, rfl⟩
  have HG0 : Hid (g0 = w.heap.size) := Lib.hid hg0.symm
  rw [hg0] at HO0 HO1 ⊢
  have hKm : KS bb (some t) (some h) M m := .inr (.inr (.inr ⟨e, HM.out⟩))
  have HFr1 := Lib.hid (((FrK.start (KS bb (some t) (some h) M) w).more HBG.out).upd HU1.out (.inl hKm))
  have HKm := Lib.hid hKm
  have HNh3 : Hid (c1 ≠ h ∧ c2 ≠ h ∧ c3 ≠ h) := Lib.hid (by
    have hcm := HCc.out
    exact ⟨fun g => hcm _ (.inl rfl) (by rw [g]; exact .inr (.inr (.inl rfl))), fun g => hcm _ (.inr (.inl rfl)) (by rw [g]; exact .inr (.inr (.inl rfl))), fun g => hcm _ (.inr (.inr rfl)) (by rw [g]; exact .inr (.inr (.inl rfl)))⟩)
  have HNt3 : Hid (c1 ≠ t ∧ c2 ≠ t ∧ c3 ≠ t) := Lib.hid (by
    have hcm := HCc.out
    exact ⟨fun g => hcm _ (.inl rfl) (by rw [g]; exact .inr (.inl rfl)), fun g => hcm _ (.inr (.inl rfl)) (by rw [g]; exact .inr (.inl rfl)), fun g => hcm _ (.inr (.inr rfl)) (by rw [g]; exact .inr (.inl rfl))⟩)
  have HNb3 : Hid (c1 ≠ bb ∧ c2 ≠ bb ∧ c3 ≠ bb) := Lib.hid (by
    have hcm := HCc.out
    exact ⟨fun g => hcm _ (.inl rfl) (by rw [g]; exact .inl rfl), fun g => hcm _ (.inr (.inl rfl)) (by rw [g]; exact .inl rfl), fun g => hcm _ (.inr (.inr rfl)) (by rw [g]; exact .inl rfl)⟩)
  clear hg0 hKm q1 q2
  refine wp_region_noPanic ?_
  refine wp_region_held_drew (S := fun wz => Rg.Own wz c2 #[.pointer (some ⟨bb, 0, none⟩)] 23 ∧ Rg.Own wz c3 #[.int .i64 e] 3 ∧ Rg.Own wz bb (objA (some t) (some h) n tw) 56) (by kernel_rfl) (⟨HLv1.out.b, HLv1.out.c, HG1.out.own⟩) (fun hHeld => ?_)
  refine Rg.takeL (i := 0) (v := ?_) rfl (by kernel_rfl) (by kernel_rfl) (by kernel_rfl) (fun _ _ _ h => h) (Or.inl ⟨by rfl, ?_⟩) (by assumption) ?_
  rotate_left
  · (intro wz hSw; (have q0 := box_cell hSw.1; go_simp <;> with_reducible rfl))
  try simp only [Act.put, List.setIfInBounds_toArray, List.set_cons_zero, List.set_cons_succ]
  refine Rg.takeL (i := 1) (v := ?_) rfl (by kernel_rfl) (by kernel_rfl) (by kernel_rfl) (fun _ _ _ h => h) (Or.inl ⟨by rfl, ?_⟩) (by assumption) ?_
  rotate_left
  · (intro wz hSw; (try dsimp only at hSw); go_simp <;> with_reducible rfl)
  try simp only [Act.put, List.setIfInBounds_toArray, List.set_cons_zero, List.set_cons_succ]
  refine Rg.takeL (i := 2) (v := ?_) rfl (by kernel_rfl) (by kernel_rfl) (by kernel_rfl) (fun _ _ _ h => h) (Or.inl ⟨by rfl, ?_⟩) (by assumption) ?_
  rotate_left
  · (intro wz hSw; (try dsimp only at hSw); go_simp <;> with_reducible rfl)
  try simp only [Act.put, List.setIfInBounds_toArray, List.set_cons_zero, List.set_cons_succ]
  refine Rg.takeL (i := 3) (v := ?_) rfl (by kernel_rfl) (by kernel_rfl) (by kernel_rfl) (fun _ _ _ h => h) (Or.inl ⟨by rfl, ?_⟩) (by assumption) ?_
  rotate_left
  · (intro wz hSw; (have q0 := ob1 hSw.2.2; go_simp <;> with_reducible rfl))
  try simp only [Act.put, List.setIfInBounds_toArray, List.set_cons_zero, List.set_cons_succ]
  refine Rg.takeL (i := 4) (v := ?_) rfl (by kernel_rfl) (by kernel_rfl) (by kernel_rfl) (fun _ _ _ h => h) (Or.inl ⟨by rfl, ?_⟩) (by assumption) ?_
  rotate_left
  · (intro wz hSw; (have q0 := box_cell hSw.2.1; go_simp <;> with_reducible rfl))
  try simp only [Act.put, List.setIfInBounds_toArray, List.set_cons_zero, List.set_cons_succ]
  refine wpAnyH_ready (rs := [5]) (by kernel_rfl) (by simp) ?_
  refine Rg.readyL (i := 5) rfl (fun K hK => ?_)
  refine elimMv (by rfl) (run_delH (HG1.out.hd.same (w' := w1.drew) fun _ _ => rfl) HE.out ⟨_, _, rfl, rfl, rfl⟩) ?_
  rintro w2 ⟨hm2, hu2⟩
  have HU2 := Lib.hid (upd_drew hu2)
  have HG2 := Lib.hid (HGo.out _ _ HG1.out hm2 HU2.out)
  refine hK.out _ _ ?_ (fun hHeld => ?_)
  · exact ⟨(HLv1.out.off HU2.out (HNh3.out.1) (HNh3.out.2.1) (HNh3.out.2.2)).b, (HLv1.out.off HU2.out (HNh3.out.1) (HNh3.out.2.1) (HNh3.out.2.2)).c, HG2.out.own⟩
  clear hK K hm2 hu2
  try simp only [Act.put, List.setIfInBounds_toArray, List.set_cons_zero, List.set_cons_succ]
  refine wpAnyH_done (by kernel_rfl) ?_ _
  refine NoPanic.normal ?_
  clear hHeld
  have HFr2 : Hid (FrK (KS bb (some t) (some h) M) (KS bb (some t) (some h) (fun e' => if e' = e then none else M e')) w w2) := Lib.hid ((HFr1.out.upd HU2.out (.inl (.inr (.inr (.inl rfl))))).wide fun k hk => .inl (ks_out hk))
  have HMk : Hid (∀ k, KS bb (some t) (some h) (fun e' => if e' = e then none else M e') k → KS bb (some t) (some h) M k) := Lib.hid fun k hk => ks_out hk
  have HMs : Hid (0 < exN l' e → (fun e' => if e' = e then none else M e') = M) := Lib.hid fun g => by have := HEx.out; omega
  have HFu2 : Hid (∀ e' m', (fun e' => if e' = e then none else M e') e' = some m' → 0 < exN l' e') := Lib.hid fun e' m' hh => by
    have hh : (if e' = e then none else M e') = some m' := hh
    split at hh
    · cases hh
    · rename_i hne
      have := (del_fix HU.out HO.out HR.out).2.2.2.1 e' hne
      rw [HL'.out] at this
      rw [this]
      exact HFull.out e' m' hh
  have HNh2 : Hid (fewer (hF M) e Nh = (epochsR l').length) := Lib.hid (by
    have h1 := (del_epochs HU.out HR.out).2
    rw [HL'.out] at h1
    have h2 := h1 HEx.out
    have h3 := HNe.out
    unfold fewer hF
    rw [HM.out]
    simp
    omega)
  have HBm : Hid (w2.heap[m]? = w1.heap[m]?) := Lib.hid (HU2.out.block m fun g => (HG1.out.ap.m e m HM.out).2.2 (by rw [g]))
  have HLv2 := Lib.hid (HLv1.out.off HU2.out (HNh3.out.1) (HNh3.out.2.1) (HNh3.out.2.2))
  have HO2 := Lib.hid (HO1.out.upd HU2.out (fun g => by have := HLt.out h (.inr (.inr (.inl rfl))); have := HG0.out; omega))
  obtain ⟨M2, hM2⟩ : ∃ M2, M2 = fun e' => if e' = e then none else M e' := ⟨_, rfl⟩
  obtain ⟨Nh2, hN2⟩ : ∃ N, N = fewer (hF M) e Nh := ⟨_, rfl⟩
  rw [← hM2] at HG2 HFr2 HMk HMs HFu2
  rw [← hN2] at HG2 HNh2
  clear hM2 hN2 HG1 HLv1 HO1 HFr1 HU2
  go_wp2_with fail
  refine wp_region_noPanic ?_
  refine wp_region_held_drew (S := fun wz => Rg.Own wz c2 #[.pointer (some ⟨bb, 0, none⟩)] 23 ∧ Rg.Own wz bb (objA (some t) (some h) n tw) 56 ∧ Rg.Own wz g0 k 43 ∧ MoS wz (some t) (ftx l) (textsR l).length) (by kernel_rfl) (⟨HLv2.out.b, HG2.out.own, HO2.out, HG2.out.tx.same fun _ _ => rfl⟩) (fun hHeld => ?_)
  refine Rg.takeL (i := 0) (v := ?_) rfl (by kernel_rfl) (by kernel_rfl) (by kernel_rfl) (fun _ _ _ h => h) (Or.inl ⟨by rfl, ?_⟩) (by assumption) ?_
  rotate_left
  · (intro wz hSw; (have q0 := box_cell hSw.1; go_simp <;> with_reducible rfl))
  try simp only [Act.put, List.setIfInBounds_toArray, List.set_cons_zero, List.set_cons_succ]
  refine Rg.takeL (i := 1) (v := ?_) rfl (by kernel_rfl) (by kernel_rfl) (by kernel_rfl) (fun _ _ _ h => h) (Or.inl ⟨by rfl, ?_⟩) (by assumption) ?_
  rotate_left
  · (intro wz hSw; (try dsimp only at hSw); go_simp <;> with_reducible rfl)
  try simp only [Act.put, List.setIfInBounds_toArray, List.set_cons_zero, List.set_cons_succ]
  refine Rg.takeL (i := 2) (v := ?_) rfl (by kernel_rfl) (by kernel_rfl) (by kernel_rfl) (fun _ _ _ h => h) (Or.inl ⟨by rfl, ?_⟩) (by assumption) ?_
  rotate_left
  · (intro wz hSw; (try dsimp only at hSw); go_simp <;> with_reducible rfl)
  try simp only [Act.put, List.setIfInBounds_toArray, List.set_cons_zero, List.set_cons_succ]
  refine Rg.takeL (i := 3) (v := ?_) rfl (by kernel_rfl) (by kernel_rfl) (by kernel_rfl) (fun _ _ _ h => h) (Or.inl ⟨by rfl, ?_⟩) (by assumption) ?_
  rotate_left
  · (intro wz hSw; (have q0 := ob0 hSw.2.1; go_simp <;> with_reducible rfl))
  try simp only [Act.put, List.setIfInBounds_toArray, List.set_cons_zero, List.set_cons_succ]
  refine Rg.takeL (i := 4) (v := ?_) rfl (by kernel_rfl) (by kernel_rfl) (by kernel_rfl) (fun _ _ _ h => h) (Or.inl ⟨by rfl, ?_⟩) (by assumption) ?_
  rotate_left
  · (intro wz hSw; (refine op_ldK HX.out HKx.out hSw.2.2.1 ?_; exact ⟨_, rfl, rfl⟩))
  try simp only [Act.put, List.setIfInBounds_toArray, List.set_cons_zero, List.set_cons_succ]
  refine Rg.takeL (i := 5) (v := ?_) rfl (by kernel_rfl) (by kernel_rfl) (by kernel_rfl) (fun _ _ _ h => h) (Or.inl ⟨by rfl, ?_⟩) (by assumption) ?_
  rotate_left
  · (intro wz hSw; (refine op_lookT' (V := .agg (bodyA s (q + 1))) hSw.2.2.2 HX.out HKx.out HVt.out ?_; exact ⟨_, _, rfl, rfl, rfl⟩))
  try simp only [Act.put, List.setIfInBounds_toArray, List.set_cons_zero, List.set_cons_succ]
  refine wpAnyH_ready (rs := [6]) (by kernel_rfl) (by simp) ?_
  refine Rg.readyL (i := 6) rfl (fun K hK => ?_)
  refine Rg.meetAlloc (by rfl) (run_alloc_body _ _ _ _ rfl rfl) ?_
  rintro wv b9 he9 h9 hbx
  have HG9 : Hid (b9 = w2.heap.size) := Lib.hid he9
  have HB9 : Hid (Below w2.heap.size w2 wv) := Lib.hid ((Below.refl _ _).drew.trans hbx)
  clear he9
  refine hK.out _ _ ?_ (fun hHeld => ?_)
  · exact ⟨(HLv2.out.below HB9.out).b, HG2.out.own.below HB9.out, HO2.out.below HB9.out, HG2.out.tx.same fun b e => HB9.out.block b (HG2.out.tx.lt e)⟩
  clear hK K hbx
  try simp only [Act.put, List.setIfInBounds_toArray, List.set_cons_zero, List.set_cons_succ]
  refine wpAnyH_ready (rs := [7]) (by kernel_rfl) (by simp) ?_
  refine Rg.readyL (i := 7) rfl (fun K hK => ?_)
  refine Rg.meetStore (by rfl) h9 68 (bodyA s (q + 1)) ⟨_, _, rfl, rfl, rfl⟩ info_body rfl (bodyA_one _ _) ?_
  rintro wu hn hu
  have HO9 : Hid (Rg.Own wu b9 (bodyA s (q + 1)) 68) := Lib.hid hn
  have HB10 : Hid (Below w2.heap.size w2 wu) := Lib.hid (hu.below HB9.out (by rw [HG9.out]; exact Nat.le_refl _))
  refine hK.out _ _ ?_ (fun hHeld => ?_)
  · exact ⟨(HLv2.out.below HB10.out).b, HG2.out.own.below HB10.out, HO2.out.below HB10.out, HG2.out.tx.same fun b e => HB10.out.block b (HG2.out.tx.lt e)⟩
  clear hK K hn hu h9 HB9
  try simp only [Act.put, List.setIfInBounds_toArray, List.set_cons_zero, List.set_cons_succ]
  refine wpAnyH_done (by kernel_rfl) ?_ _
  refine NoPanic.normal ?_
  clear hHeld
  have HG4 := Lib.hid (HG2.out.below HB10.out)
  have HLv4 := Lib.hid (HLv2.out.below HB10.out)
  have HO4 := Lib.hid (HO2.out.below HB10.out)
  have HNB : Hid (¬ KS bb (some t) (some h) M2 b9 ∧ g0 ≠ b9 ∧ c1 ≠ b9 ∧ c2 ≠ b9 ∧ c3 ≠ b9) := Lib.hid (by
    have h1 := HG9.out
    have h2 := HO2.out.1
    have h3 := HLv2.out.a.1
    have h4 := HLv2.out.b.1
    have h5 := HLv2.out.c.1
    exact ⟨fun g => by have := HG2.out.lt _ g; omega, by omega, by omega, by omega, by omega⟩)
  have HFr4 := Lib.hid (HFr2.out.more HB10.out)
  have HBm4 : Hid (wu.heap[m]? = w1.heap[m]?) := Lib.hid ((HB10.out.block m (by have := HLt.out m HKm.out; have := HFr2.out.size; omega)).trans HBm.out)
  obtain ⟨Q1, hQ1⟩ : ∃ Q1, q + 1 = Q1 := ⟨_, rfl⟩
  rw [hQ1] at HO9
  have q7 : wu.cell? ⟨b9, 1, none⟩ = some (.int .i64 (Q1 : Int)) := bd1 HO9.out
  have q8 : IntKind.i64.wrap ((Q1 : Int) - 1) = ((q : Nat) : Int) := by
    have := HQ.out
    simp only [IntKind.wrap_i64, wrap64]
    omega
  clear hQ1
  have r5 : (((q : Nat) : Int) == 0) = false := by (rw [beq_eq_false_iff_ne]; have := HTx.out; omega)
  have r6 : decide (((q : Nat) : Int) = 0) = false := decide_eq_false (by have := HTx.out; omega)
  have r7 : decide (q = 0) = false := decide_eq_false (by have := HTx.out; omega)
  have r8 : q ≠ 0 := (by have := HTx.out; omega)
  go_wp2_with (first
    | (refine elimW (R := fun w' => Rg.Own w' b9 (bodyA s q) 68 ∧ Rg.Upd wu b9 w') rfl ⟨_, run_stI HO9.out (by simp [bodyA]) _ ⟨_, _, rfl, rfl, rfl⟩, own_set HO9.out _, upd_set _ _ _ _⟩ ?_; rintro wy ⟨hoo, huu⟩; have HOy := Lib.hid hoo; have HUy := Lib.hid huu; have q9 := bd1 hoo; clear hoo huu))
  have HGy := Lib.hid (HG4.out.off HUy.out HNB.out.1)
  have HLvy := Lib.hid (HLv4.out.off HUy.out HNB.out.2.2.1 HNB.out.2.2.2.1 HNB.out.2.2.2.2)
  have HOky := Lib.hid (HO4.out.upd HUy.out HNB.out.2.1)
  have HFry := Lib.hid (HFr4.out.upd HUy.out (.inr (by have := HG9.out; have := HFr2.out.size; omega)))
  have HBmy : Hid (wy.heap[m]? = w1.heap[m]?) := Lib.hid ((HUy.out.block m (fun g => by have := HLt.out m HKm.out; have := HG9.out; have := HFr2.out.size; omega)).trans HBm4.out)
  clear HG4 HLv4 HO4 HFr4 HBm4 HG2 HLv2 HO2 HFr2 HBm
  refine wp_region_noPanic ?_
  refine wp_region_held_drew (S := fun wz => Rg.Own wz c2 #[.pointer (some ⟨bb, 0, none⟩)] 23 ∧ Rg.Own wz bb (objA (some t) (some h) n tw) 56 ∧ Rg.Own wz g0 k 43 ∧ Rg.Own wz b9 (bodyA s q) 68) (by kernel_rfl) (⟨HLvy.out.b, HGy.out.own, HOky.out, HOy.out⟩) (fun hHeld => ?_)
  refine Rg.takeL (i := 0) (v := ?_) rfl (by kernel_rfl) (by kernel_rfl) (by kernel_rfl) (fun _ _ _ h => h) (Or.inl ⟨by rfl, ?_⟩) (by assumption) ?_
  rotate_left
  · (intro wz hSw; (have q0 := box_cell hSw.1; go_simp <;> with_reducible rfl))
  try simp only [Act.put, List.setIfInBounds_toArray, List.set_cons_zero, List.set_cons_succ]
  refine Rg.takeL (i := 1) (v := ?_) rfl (by kernel_rfl) (by kernel_rfl) (by kernel_rfl) (fun _ _ _ h => h) (Or.inl ⟨by rfl, ?_⟩) (by assumption) ?_
  rotate_left
  · (intro wz hSw; (try dsimp only at hSw); go_simp <;> with_reducible rfl)
  try simp only [Act.put, List.setIfInBounds_toArray, List.set_cons_zero, List.set_cons_succ]
  refine Rg.takeL (i := 2) (v := ?_) rfl (by kernel_rfl) (by kernel_rfl) (by kernel_rfl) (fun _ _ _ h => h) (Or.inl ⟨by rfl, ?_⟩) (by assumption) ?_
  rotate_left
  · (intro wz hSw; (try dsimp only at hSw); go_simp <;> with_reducible rfl)
  try simp only [Act.put, List.setIfInBounds_toArray, List.set_cons_zero, List.set_cons_succ]
  refine Rg.takeL (i := 3) (v := ?_) rfl (by kernel_rfl) (by kernel_rfl) (by kernel_rfl) (fun _ _ _ h => h) (Or.inl ⟨by rfl, ?_⟩) (by assumption) ?_
  rotate_left
  · (intro wz hSw; (have q0 := ob0 hSw.2.1; go_simp <;> with_reducible rfl))
  try simp only [Act.put, List.setIfInBounds_toArray, List.set_cons_zero, List.set_cons_succ]
  refine Rg.takeL (i := 4) (v := ?_) rfl (by kernel_rfl) (by kernel_rfl) (by kernel_rfl) (fun _ _ _ h => h) (Or.inl ⟨by rfl, ?_⟩) (by assumption) ?_
  rotate_left
  · (intro wz hSw; (refine op_ldK HX.out HKx.out hSw.2.2.1 ?_; exact ⟨_, rfl, rfl⟩))
  try simp only [Act.put, List.setIfInBounds_toArray, List.set_cons_zero, List.set_cons_succ]
  refine Rg.takeL (i := 5) (v := ?_) rfl (by kernel_rfl) (by kernel_rfl) (by kernel_rfl) (fun _ _ _ h => h) (Or.inl ⟨by rfl, ?_⟩) (by assumption) ?_
  rotate_left
  · (intro wz hSw; (refine op_ldB hSw.2.2.2 ?_; exact ⟨_, rfl, rfl⟩))
  try simp only [Act.put, List.setIfInBounds_toArray, List.set_cons_zero, List.set_cons_succ]
  refine wpAnyH_ready (rs := [6]) (by kernel_rfl) (by simp) ?_
  refine Rg.readyL (i := 6) rfl (fun K hK => ?_)
  refine elimM (by rfl) (run_putT (HGy.out.tx.same (w' := wy.drew) fun _ _ => rfl) HNt.out HX.out HKx.out (.agg (bodyA s q)) ⟨_, _, _, rfl, rfl, rfl, rfl⟩) ?_
  rintro w7 ⟨hm7, hu7⟩
  have HU7 := Lib.hid (upd_drew hu7)
  have HG7 := Lib.hid (HGy.out.texts rfl HU7.out hm7)
  have HLv7 := Lib.hid (HLvy.out.off HU7.out HNt3.out.1 HNt3.out.2.1 HNt3.out.2.2)
  have HO7 := Lib.hid (HOky.out.upd HU7.out (fun g => by have := HLt.out t (.inr (.inl rfl)); have := HG0.out; omega))
  refine hK.out _ _ ?_ (fun hHeld => ?_)
  · exact ⟨HLv7.out.b, HG7.out.own, HO7.out, HOy.out.upd HU7.out (fun g => HNB.out.1 (.inr (.inl (by rw [g]))))⟩
  clear hK K hm7 hu7
  try simp only [Act.put, List.setIfInBounds_toArray, List.set_cons_zero, List.set_cons_succ]
  refine wpAnyH_done (by kernel_rfl) ?_ _
  refine NoPanic.normal ?_
  clear hHeld
  have HRes : Hid (LeaveP bb (some t) (some h) M l tw e s m c1 c2 c3 w (.returned (.bool true)) w7) := Lib.hid (by
    unfold LeaveP
    have hp : 0 < epN (delR l e s) s := by rw [HL'.out, HQq.out]; exact HTx.out
    have hd := del_more (e := e) HU.out HO.out hp
    rw [HL'.out, HXs.out] at hd
    rw [HL'.out, HXs.out, HKx.out, ← HWG.out]
    refine ⟨by rw [HQq.out, decide_eq_true HTx.out], ⟨M2, ⟨⟨Nh2, HNh2.out, HG7.out.congr (fun y _ => by rw [hd.1 y, HQq.out]; rfl) (by rw [hd.2.2.1, hd.2.1]) (fun _ _ _ => rfl) (fun _ => rfl) (by rw [hd.2.2.2, HNn.out])⟩, ?_, ?_, HFu2.out⟩, HMk.out, HMs.out, HFry.out.upd HU7.out (.inl (.inr (.inl rfl)))⟩, HLv7.out, _, w1, HRun.out, ?_⟩
    · rw [← HL'.out]; exact (oth_del HU.out e s).u'
    · rw [← HL'.out]; exact one_del HO.out e s
    · exact (HU7.out.block m (fun g => (HGG.out.ap.m e m HM.out).2.1 (by rw [g]))).trans HBmy.out)
  clear HU7 HG7 HLv7 HO7 q7 q8 q9
  go_wp2
  go_ret
  exact HRes.out
set_option maxHeartbeats 8000000 in
theorem leave_kg {t h m c1 c2 c3 : Nat} {s : ByteArray} (hS : St bb (some t) (some h) M l tw w) (hr : hasR l e s = true) (he : W64 e) (hl : l.length ≤ 40) (hz : ∀ r ∈ l, r.s.size ≤ 200) (lv : Lv w bb e (some m) c1 c2 c3) (hM : M e = some m) (hc : ∀ k, k = c1 ∨ k = c2 ∨ k = c3 → ¬ KS bb (some t) (some h) M k) (hE : 0 < exN (delR l e s) e) (hT : epN (delR l e s) s = 0) :
    Calls Tryd.prog 35 #[.agg (kc (sumB s)), .pointer (some ⟨c1, 0, none⟩), .pointer (some ⟨c2, 0, none⟩), .pointer (some ⟨c3, 0, none⟩)] w (LeaveP bb (some t) (some h) M l tw e s m c1 c2 c3 w) := by
  obtain ⟨Nh, hNe, g⟩ := hS.g
  obtain ⟨f1, f2, f3, f4, f5⟩ := del_fix hS.u hS.o hr
  have HE := Lib.hid he
  have HM := Lib.hid hM
  have HX : Hid (L32 (sumB s)) := Lib.hid (sumB_length s)
  have HU := Lib.hid hS.u
  have HO := Lib.hid hS.o
  have HR := Lib.hid hr
  have HFull := Lib.hid hS.full
  have HNe := Lib.hid hNe
  have HCc := Lib.hid hc
  have HEx := Lib.hid hE
  have HTx := Lib.hid hT
  have hrow : ∃ r ∈ l, r.s = s := by obtain ⟨r, h1, _, h2⟩ := hasR_iff.1 hr; exact ⟨r, h1, h2⟩
  have HSs : Hid (s.size ≤ 200) := Lib.hid (by obtain ⟨r, h1, h2⟩ := hrow; rw [← h2]; exact hz r h1)
  have HN8 : Hid (sizeT (textsR l) ≤ 8000) := Lib.hid (by
    have h1 := sizeT_le (T := textsR l) (fun t ht => by
      obtain ⟨r, hr, rfl⟩ := mem_texts.1 ht
      exact hz r hr) (textsR l).length
    rw [List.take_length] at h1
    have := texts_le l
    omega)
  have HNt : Hid ((textsR l).length < maxLen) := Lib.hid (by have := texts_le l; unfold maxLen; omega)
  have HQ : Hid (epN (delR l e s) s ≤ 40) := Lib.hid (by have := ep_le l s; omega)
  have HVt : Hid ((ftx l (sumB s)).getD (bodyV eB 0) = .agg (bodyA s (epN (delR l e s) s + 1))) := Lib.hid (by
    obtain ⟨r, h1, h2⟩ := hrow
    rw [ftx_at hS.o h1 h2, f5]
    rfl)
  have HGd : Hid (∀ wG w1, Sg bb (some t) (some h) M (ftx l) (textsR l).length (fix_ l) (exN l) Nh (sizeT (textsR l)) tw wG → MoS w1 (some m) (setF (fix_ l e) (sumB s) none) (fewer (fix_ l e) (sumB s) (exN l e)) → Rg.Upd wG m w1 → Sg bb (some t) (some h) M (ftx l) (textsR l).length (fix_ (delR l e s)) (exN (delR l e s)) Nh (sizeT (textsR l)) tw w1 ∧ MoS w1 (some m) (fix_ (delR l e s) e) (exN (delR l e s) e)) := Lib.hid fun wG w1 g h1 h2 => by
    have h3 : Sg bb (some t) (some h) M (ftx l) (textsR l).length (fix_ (delR l e s)) (exN (delR l e s)) Nh (sizeT (textsR l)) tw w1 := (g.sums hM h2 (by rw [hM]; exact h1)).congr (fun _ _ => rfl) rfl (fun e' y _ => by
      rw [f1]
      split <;> rfl) (fun e' => by
      by_cases q : e' = e
      · subst q; rw [if_pos rfl, f3]
      · rw [if_neg q, f4 e' q]) rfl
    have h4 := h3.inn e
    rw [hM] at h4
    exact ⟨h3, h4⟩
  obtain ⟨x, hx⟩ : ∃ x, sumB s = x := ⟨_, rfl⟩
  have HXs := Lib.hid hx
  obtain ⟨l', hl'⟩ : ∃ l', delR l e s = l' := ⟨_, rfl⟩
  have HL' := Lib.hid hl'
  obtain ⟨n, hn⟩ : ∃ n : Nat, sizeT (textsR l) = n := ⟨_, rfl⟩
  have HNn := Lib.hid hn
  rw [hn] at g HN8 HGd
  rw [hx] at HX HVt HGd
  rw [hl'] at HEx HTx HQ HVt HGd
  rw [HTx.out] at HVt
  obtain ⟨k, hk⟩ : ∃ k, kc x = k := ⟨_, rfl⟩
  have HKx := Lib.hid hk
  obtain ⟨wG, hwG⟩ : ∃ wG, wG = w.alloc (.cells k 43) := ⟨_, rfl⟩
  have hbG : Below w.heap.size w wG := by rw [hwG]; exact al1 _ _
  have HBG := Lib.hid hbG
  have HGG := Lib.hid (g.below hbG)
  have HIm : Hid (MoS wG (some m) (fix_ l e) (exN l e)) := Lib.hid (by have := (g.below hbG).inn e; rwa [hM] at this)
  have HLv := Lib.hid (lv.below hbG)
  have HO0 : Hid (Rg.Own wG w.heap.size k 43) := Lib.hid (by rw [hwG]; exact Rg.Own.new _ _ _)
  have HLt : Hid (∀ k, KS bb (some t) (some h) M k → k < w.heap.size) := Lib.hid g.lt
  have HWG := Lib.hid hwG
  have HLvs : Hid (c1 < w.heap.size ∧ c2 < w.heap.size ∧ c3 < w.heap.size) := Lib.hid ⟨lv.a.1, lv.b.1, lv.c.1⟩
  have q1 := lv1 (lv.below hbG)
  rw [hwG] at q1
  rw [hx, hk]
  clear hS hr he hl hz lv hM hc hE hT hNe g f1 f2 f3 f4 f5 hrow hx hl' hn hk hwG hbG
  obtain ⟨N1, hN1⟩ : ∃ N, exN l' e = N := ⟨_, rfl⟩
  have HN1 := Lib.hid hN1
  have HP1 : Hid (0 < N1) := Lib.hid (by rw [← hN1]; exact HEx.out)
  have r1 : ((N1 : Int) == 0) = false := by (rw [beq_eq_false_iff_ne]; have := HP1.out; omega)
  have r2 : decide ((N1 : Int) = 0) = false := decide_eq_false (by have := HP1.out; omega)
  have r3 : decide (N1 = 0) = false := decide_eq_false (by have := HP1.out; omega)
  have r4 : N1 ≠ 0 := (by have := HP1.out; omega)
  clear hN1
  go_enter Tryd.func35, Tryd.ntmps35
  go_wp2_with (first
    | (refine Rg.run rfl _ _ (op_ldK HX.out HKx.out (own_e HO0.out HWG.out.symm) ⟨_, rfl, rfl⟩) ?_)
    | (at_delete; rw [← HWG.out]; refine elimWv rfl (run_delI HIm.out HX.out HKx.out ⟨_, _, rfl, rfl, rfl⟩) ?_; rintro w1 ⟨hm1, hu1, hrun1⟩; have HG1 := Lib.hid (HGd.out _ _ HGG.out hm1 hu1).1; have HI1 := Lib.hid (HGd.out _ _ HGG.out hm1 hu1).2; have HU1 := Lib.hid hu1; have HRun := Lib.hid hrun1; have hcm := HCc.out; have hmk : KS bb (some t) (some h) M m := .inr (.inr (.inr ⟨e, HM.out⟩))
       have HLv1 := Lib.hid (HLv.out.off hu1 (fun g => hcm _ (.inl rfl) (by rw [g]; exact hmk)) (fun g => hcm _ (.inr (.inl rfl)) (by rw [g]; exact hmk)) (fun g => hcm _ (.inr (.inr rfl)) (by rw [g]; exact hmk))); have q2 := lv1 HLv1.out; have HO1 := Lib.hid (HO0.out.upd hu1 (fun g => by have := HLt.out _ hmk; omega)); clear hm1 hu1 hrun1 hcm hmk)
    | (at_len; refine Rg.run rfl _ _ (op_lenI' HI1.out HN1.out ⟨_, rfl, rfl⟩) ?_))
  obtain ⟨g0, hg0⟩ : ∃ g, w.heap.size = g := ⟨_, rfl⟩
  have HG0 : Hid (g0 = w.heap.size) := Lib.hid hg0.symm
  rw [hg0] at HO0 HO1 ⊢
  have hKm : KS bb (some t) (some h) M m := .inr (.inr (.inr ⟨e, HM.out⟩))
  have HFr1 := Lib.hid (((FrK.start (KS bb (some t) (some h) M) w).more HBG.out).upd HU1.out (.inl hKm))
  have HKm := Lib.hid hKm
  have HNh3 : Hid (c1 ≠ h ∧ c2 ≠ h ∧ c3 ≠ h) := Lib.hid (by
    have hcm := HCc.out
    exact ⟨fun g => hcm _ (.inl rfl) (by rw [g]; exact .inr (.inr (.inl rfl))), fun g => hcm _ (.inr (.inl rfl)) (by rw [g]; exact .inr (.inr (.inl rfl))), fun g => hcm _ (.inr (.inr rfl)) (by rw [g]; exact .inr (.inr (.inl rfl)))⟩)
  have HNt3 : Hid (c1 ≠ t ∧ c2 ≠ t ∧ c3 ≠ t) := Lib.hid (by
    have hcm := HCc.out
    exact ⟨fun g => hcm _ (.inl rfl) (by rw [g]; exact .inr (.inl rfl)), fun g => hcm _ (.inr (.inl rfl)) (by rw [g]; exact .inr (.inl rfl)), fun g => hcm _ (.inr (.inr rfl)) (by rw [g]; exact .inr (.inl rfl))⟩)
  have HNb3 : Hid (c1 ≠ bb ∧ c2 ≠ bb ∧ c3 ≠ bb) := Lib.hid (by
    have hcm := HCc.out
    exact ⟨fun g => hcm _ (.inl rfl) (by rw [g]; exact .inl rfl), fun g => hcm _ (.inr (.inl rfl)) (by rw [g]; exact .inl rfl), fun g => hcm _ (.inr (.inr rfl)) (by rw [g]; exact .inl rfl)⟩)
  clear hg0 hKm q1 q2
  have HG2 := HG1
  have HFr2 := HFr1
  have HFu2 : Hid (∀ e' m', M e' = some m' → 0 < exN l' e') := Lib.hid fun e' m' hh => by
    by_cases he : e' = e
    · rw [he]; exact HEx.out
    · have := (del_fix HU.out HO.out HR.out).2.2.2.1 e' he
      rw [HL'.out] at this
      rw [this]
      exact HFull.out e' m' hh
  have HNh2 : Hid (Nh = (epochsR l').length) := Lib.hid (by
    have h1 := (del_epochs HU.out HR.out).1
    rw [HL'.out] at h1
    rw [HNe.out, h1 HEx.out])
  have HLv2 := HLv1
  have HO2 := HO1
  obtain ⟨M2, hM2⟩ : ∃ M2, M2 = M := ⟨_, rfl⟩
  obtain ⟨Nh2, hN2⟩ : ∃ N, N = Nh := ⟨_, rfl⟩
  have HMx := HM
  rw [← hM2] at HG2 HFu2
  have HFr2 : Hid (FrK (KS bb (some t) (some h) M) (KS bb (some t) (some h) M2) w w1) := Lib.hid (by rw [hM2]; exact HFr1.out)
  have HMk : Hid (∀ k, KS bb (some t) (some h) M2 k → KS bb (some t) (some h) M k) := Lib.hid (by rw [hM2]; exact fun k hk => hk)
  have HMs : Hid (0 < exN l' e → M2 = M) := Lib.hid fun _ => hM2
  rw [← hN2] at HG2 HNh2
  obtain ⟨w2, hw2⟩ : ∃ w2, w2 = w1 := ⟨_, rfl⟩
  rw [← hw2] at HG2 HLv2 HO2 HFr2 ⊢
  have HBm : Hid (w2.heap[m]? = w1.heap[m]?) := Lib.hid (by rw [hw2])
  clear hM2 hN2 hw2 HG1 HLv1 HO1 HFr1
  refine wp_region_noPanic ?_
  refine wp_region_held_drew (S := fun wz => Rg.Own wz c2 #[.pointer (some ⟨bb, 0, none⟩)] 23 ∧ Rg.Own wz bb (objA (some t) (some h) n tw) 56 ∧ Rg.Own wz g0 k 43 ∧ MoS wz (some t) (ftx l) (textsR l).length) (by kernel_rfl) (⟨HLv2.out.b, HG2.out.own, HO2.out, HG2.out.tx.same fun _ _ => rfl⟩) (fun hHeld => ?_)
  refine Rg.takeL (i := 0) (v := ?_) rfl (by kernel_rfl) (by kernel_rfl) (by kernel_rfl) (fun _ _ _ h => h) (Or.inl ⟨by rfl, ?_⟩) (by assumption) ?_
  rotate_left
  · (intro wz hSw; (have q0 := box_cell hSw.1; go_simp <;> with_reducible rfl))
  try simp only [Act.put, List.setIfInBounds_toArray, List.set_cons_zero, List.set_cons_succ]
  refine Rg.takeL (i := 1) (v := ?_) rfl (by kernel_rfl) (by kernel_rfl) (by kernel_rfl) (fun _ _ _ h => h) (Or.inl ⟨by rfl, ?_⟩) (by assumption) ?_
  rotate_left
  · (intro wz hSw; (try dsimp only at hSw); go_simp <;> with_reducible rfl)
  try simp only [Act.put, List.setIfInBounds_toArray, List.set_cons_zero, List.set_cons_succ]
  refine Rg.takeL (i := 2) (v := ?_) rfl (by kernel_rfl) (by kernel_rfl) (by kernel_rfl) (fun _ _ _ h => h) (Or.inl ⟨by rfl, ?_⟩) (by assumption) ?_
  rotate_left
  · (intro wz hSw; (try dsimp only at hSw); go_simp <;> with_reducible rfl)
  try simp only [Act.put, List.setIfInBounds_toArray, List.set_cons_zero, List.set_cons_succ]
  refine Rg.takeL (i := 3) (v := ?_) rfl (by kernel_rfl) (by kernel_rfl) (by kernel_rfl) (fun _ _ _ h => h) (Or.inl ⟨by rfl, ?_⟩) (by assumption) ?_
  rotate_left
  · (intro wz hSw; (have q0 := ob0 hSw.2.1; go_simp <;> with_reducible rfl))
  try simp only [Act.put, List.setIfInBounds_toArray, List.set_cons_zero, List.set_cons_succ]
  refine Rg.takeL (i := 4) (v := ?_) rfl (by kernel_rfl) (by kernel_rfl) (by kernel_rfl) (fun _ _ _ h => h) (Or.inl ⟨by rfl, ?_⟩) (by assumption) ?_
  rotate_left
  · (intro wz hSw; (refine op_ldK HX.out HKx.out hSw.2.2.1 ?_; exact ⟨_, rfl, rfl⟩))
  try simp only [Act.put, List.setIfInBounds_toArray, List.set_cons_zero, List.set_cons_succ]
  refine Rg.takeL (i := 5) (v := ?_) rfl (by kernel_rfl) (by kernel_rfl) (by kernel_rfl) (fun _ _ _ h => h) (Or.inl ⟨by rfl, ?_⟩) (by assumption) ?_
  rotate_left
  · (intro wz hSw; (refine op_lookT' (V := .agg (bodyA s (0 + 1))) hSw.2.2.2 HX.out HKx.out HVt.out ?_; exact ⟨_, _, rfl, rfl, rfl⟩))
  try simp only [Act.put, List.setIfInBounds_toArray, List.set_cons_zero, List.set_cons_succ]
  refine wpAnyH_ready (rs := [6]) (by kernel_rfl) (by simp) ?_
  refine Rg.readyL (i := 6) rfl (fun K hK => ?_)
  refine Rg.meetAlloc (by rfl) (run_alloc_body _ _ _ _ rfl rfl) ?_
  rintro wv b9 he9 h9 hbx
  have HG9 : Hid (b9 = w2.heap.size) := Lib.hid he9
  have HB9 : Hid (Below w2.heap.size w2 wv) := Lib.hid ((Below.refl _ _).drew.trans hbx)
  clear he9
  refine hK.out _ _ ?_ (fun hHeld => ?_)
  · exact ⟨(HLv2.out.below HB9.out).b, HG2.out.own.below HB9.out, HO2.out.below HB9.out, HG2.out.tx.same fun b e => HB9.out.block b (HG2.out.tx.lt e)⟩
  clear hK K hbx
  try simp only [Act.put, List.setIfInBounds_toArray, List.set_cons_zero, List.set_cons_succ]
  refine wpAnyH_ready (rs := [7]) (by kernel_rfl) (by simp) ?_
  refine Rg.readyL (i := 7) rfl (fun K hK => ?_)
  refine Rg.meetStore (by rfl) h9 68 (bodyA s (0 + 1)) ⟨_, _, rfl, rfl, rfl⟩ info_body rfl (bodyA_one _ _) ?_
  rintro wu hn hu
  have HO9 : Hid (Rg.Own wu b9 (bodyA s (0 + 1)) 68) := Lib.hid hn
  have HB10 : Hid (Below w2.heap.size w2 wu) := Lib.hid (hu.below HB9.out (by rw [HG9.out]; exact Nat.le_refl _))
  refine hK.out _ _ ?_ (fun hHeld => ?_)
  · exact ⟨(HLv2.out.below HB10.out).b, HG2.out.own.below HB10.out, HO2.out.below HB10.out, HG2.out.tx.same fun b e => HB10.out.block b (HG2.out.tx.lt e)⟩
  clear hK K hn hu h9 HB9
  try simp only [Act.put, List.setIfInBounds_toArray, List.set_cons_zero, List.set_cons_succ]
  refine wpAnyH_done (by kernel_rfl) ?_ _
  refine NoPanic.normal ?_
  clear hHeld
  have HG4 := Lib.hid (HG2.out.below HB10.out)
  have HLv4 := Lib.hid (HLv2.out.below HB10.out)
  have HO4 := Lib.hid (HO2.out.below HB10.out)
  have HNB : Hid (¬ KS bb (some t) (some h) M2 b9 ∧ g0 ≠ b9 ∧ c1 ≠ b9 ∧ c2 ≠ b9 ∧ c3 ≠ b9) := Lib.hid (by
    have h1 := HG9.out
    have h2 := HO2.out.1
    have h3 := HLv2.out.a.1
    have h4 := HLv2.out.b.1
    have h5 := HLv2.out.c.1
    exact ⟨fun g => by have := HG2.out.lt _ g; omega, by omega, by omega, by omega, by omega⟩)
  have HFr4 := Lib.hid (HFr2.out.more HB10.out)
  have HBm4 : Hid (wu.heap[m]? = w1.heap[m]?) := Lib.hid ((HB10.out.block m (by have := HLt.out m HKm.out; have := HFr2.out.size; omega)).trans HBm.out)
  have q7 : wu.cell? ⟨b9, 1, none⟩ = some (.int .i64 ((0 + 1 : Nat) : Int)) := bd1 HO9.out
  have q8 : IntKind.i64.wrap (((0 + 1 : Nat) : Int) - 1) = ((0 : Nat) : Int) := by
    simp only [IntKind.wrap_i64, wrap64]
    omega
  go_wp2_with (first
    | (refine elimW (R := fun w' => Rg.Own w' b9 (bodyA s 0) 68 ∧ Rg.Upd wu b9 w') rfl ⟨_, run_stI HO9.out (by simp [bodyA]) _ ⟨_, _, rfl, rfl, rfl⟩, own_set HO9.out _, upd_set _ _ _ _⟩ ?_; rintro wy ⟨hoo, huu⟩; have HOy := Lib.hid hoo; have HUy := Lib.hid huu; have q9 := bd1 hoo; clear hoo huu))
  have HGy := Lib.hid (HG4.out.off HUy.out HNB.out.1)
  have HLvy := Lib.hid (HLv4.out.off HUy.out HNB.out.2.2.1 HNB.out.2.2.2.1 HNB.out.2.2.2.2)
  have HOky := Lib.hid (HO4.out.upd HUy.out HNB.out.2.1)
  have HFry := Lib.hid (HFr4.out.upd HUy.out (.inr (by have := HG9.out; have := HFr2.out.size; omega)))
  have HBmy : Hid (wy.heap[m]? = w1.heap[m]?) := Lib.hid ((HUy.out.block m (fun g => by have := HLt.out m HKm.out; have := HG9.out; have := HFr2.out.size; omega)).trans HBm4.out)
  clear HG4 HLv4 HO4 HFr4 HBm4 HG2 HLv2 HO2 HFr2 HBm
  refine wp_region_noPanic ?_
  refine wp_region_held_drew (S := fun wz => Rg.Own wz c2 #[.pointer (some ⟨bb, 0, none⟩)] 23 ∧ Rg.Own wz bb (objA (some t) (some h) n tw) 56 ∧ Rg.Own wz g0 k 43) (by kernel_rfl) (⟨HLvy.out.b, HGy.out.own, HOky.out⟩) (fun hHeld => ?_)
  refine Rg.takeL (i := 0) (v := ?_) rfl (by kernel_rfl) (by kernel_rfl) (by kernel_rfl) (fun _ _ _ h => h) (Or.inl ⟨by rfl, ?_⟩) (by assumption) ?_
  rotate_left
  · (intro wz hSw; (have q0 := box_cell hSw.1; go_simp <;> with_reducible rfl))
  try simp only [Act.put, List.setIfInBounds_toArray, List.set_cons_zero, List.set_cons_succ]
  refine Rg.takeL (i := 1) (v := ?_) rfl (by kernel_rfl) (by kernel_rfl) (by kernel_rfl) (fun _ _ _ h => h) (Or.inl ⟨by rfl, ?_⟩) (by assumption) ?_
  rotate_left
  · (intro wz hSw; (try dsimp only at hSw); go_simp <;> with_reducible rfl)
  try simp only [Act.put, List.setIfInBounds_toArray, List.set_cons_zero, List.set_cons_succ]
  refine Rg.takeL (i := 2) (v := ?_) rfl (by kernel_rfl) (by kernel_rfl) (by kernel_rfl) (fun _ _ _ h => h) (Or.inl ⟨by rfl, ?_⟩) (by assumption) ?_
  rotate_left
  · (intro wz hSw; (try dsimp only at hSw); go_simp <;> with_reducible rfl)
  try simp only [Act.put, List.setIfInBounds_toArray, List.set_cons_zero, List.set_cons_succ]
  refine Rg.takeL (i := 3) (v := ?_) rfl (by kernel_rfl) (by kernel_rfl) (by kernel_rfl) (fun _ _ _ h => h) (Or.inl ⟨by rfl, ?_⟩) (by assumption) ?_
  rotate_left
  · (intro wz hSw; (have q0 := ob0 hSw.2.1; go_simp <;> with_reducible rfl))
  try simp only [Act.put, List.setIfInBounds_toArray, List.set_cons_zero, List.set_cons_succ]
  refine Rg.takeL (i := 4) (v := ?_) rfl (by kernel_rfl) (by kernel_rfl) (by kernel_rfl) (fun _ _ _ h => h) (Or.inl ⟨by rfl, ?_⟩) (by assumption) ?_
  rotate_left
  · (intro wz hSw; (refine op_ldK HX.out HKx.out hSw.2.2 ?_; exact ⟨_, rfl, rfl⟩))
  try simp only [Act.put, List.setIfInBounds_toArray, List.set_cons_zero, List.set_cons_succ]
  refine wpAnyH_ready (rs := [5]) (by kernel_rfl) (by simp) ?_
  refine Rg.readyL (i := 5) rfl (fun K hK => ?_)
  refine elimMv (by rfl) (run_delT (HGy.out.tx.same (w' := wy.drew) fun _ _ => rfl) HX.out HKx.out ⟨_, _, rfl, rfl, rfl⟩) ?_
  rintro w7 ⟨hm7, hu7⟩
  have HU7 := Lib.hid (upd_drew hu7)
  have HG7 := Lib.hid (HGy.out.texts rfl HU7.out hm7)
  have HLv7 := Lib.hid (HLvy.out.off HU7.out HNt3.out.1 HNt3.out.2.1 HNt3.out.2.2)
  have HO7 := Lib.hid (HOky.out.upd HU7.out (fun g => by have := HLt.out t (.inr (.inl rfl)); have := HG0.out; omega))
  refine hK.out _ _ ?_ (fun hHeld => ?_)
  · exact ⟨HLv7.out.b, HG7.out.own, HO7.out⟩
  clear hK K hm7 hu7
  try simp only [Act.put, List.setIfInBounds_toArray, List.set_cons_zero, List.set_cons_succ]
  refine wpAnyH_done (by kernel_rfl) ?_ _
  refine NoPanic.normal ?_
  clear hHeld
  have HO97 := Lib.hid (HOy.out.upd HU7.out (fun g => HNB.out.1 (.inr (.inl (by rw [g])))))
  have HDn := Lib.hid (del_none (e := e) HU.out HO.out HR.out (by rw [HL'.out]; exact HTx.out))
  obtain ⟨n9, hn9⟩ : ∃ n9, sizeT (textsR l') = n9 := ⟨_, rfl⟩
  have HN9 : Hid (n = s.size + n9) := Lib.hid (by
    have := HDn.out.2.2.2
    rw [HL'.out, HNn.out, hn9] at this
    exact this)
  have HN9e := Lib.hid hn9
  have HW8 : Hid (IntKind.i64.wrap ((n : Int) - (s.size : Int)) = ((n9 : Nat) : Int)) := Lib.hid (by
    have h1 := HN9.out
    have h2 := HN8.out
    simp only [IntKind.wrap_i64, wrap64]
    omega)
  clear hn9 q7 q8 q9
  go_wp2_with fail
  refine wp_region_noPanic ?_
  refine wp_region_held_drew (S := fun wz => Rg.Own wz c2 #[.pointer (some ⟨bb, 0, none⟩)] 23 ∧ Rg.Own wz b9 (bodyA s 0) 68 ∧ True) (by kernel_rfl) (⟨HLv7.out.b, HO97.out, trivial⟩) (fun hHeld => ?_)
  refine Rg.takeL (i := 0) (v := ?_) rfl (by kernel_rfl) (by kernel_rfl) (by kernel_rfl) (fun _ _ _ h => h) (Or.inl ⟨by rfl, ?_⟩) (by assumption) ?_
  rotate_left
  · (intro wz hSw; (have q0 := box_cell hSw.1; go_simp <;> with_reducible rfl))
  try simp only [Act.put, List.setIfInBounds_toArray, List.set_cons_zero, List.set_cons_succ]
  refine Rg.takeL (i := 1) (v := ?_) rfl (by kernel_rfl) (by kernel_rfl) (by kernel_rfl) (fun _ _ _ h => h) (Or.inl ⟨by rfl, ?_⟩) (by assumption) ?_
  rotate_left
  · (intro wz hSw; (try dsimp only at hSw); go_simp <;> with_reducible rfl)
  try simp only [Act.put, List.setIfInBounds_toArray, List.set_cons_zero, List.set_cons_succ]
  refine Rg.takeL (i := 2) (v := ?_) rfl (by kernel_rfl) (by kernel_rfl) (by kernel_rfl) (fun _ _ _ h => h) (Or.inl ⟨by rfl, ?_⟩) (by assumption) ?_
  rotate_left
  · (intro wz hSw; (try dsimp only at hSw); go_simp <;> with_reducible rfl)
  try simp only [Act.put, List.setIfInBounds_toArray, List.set_cons_zero, List.set_cons_succ]
  refine Rg.takeL (i := 4) (v := ?_) rfl (by kernel_rfl) (by kernel_rfl) (by kernel_rfl) (fun _ _ _ h => h) (Or.inl ⟨by rfl, ?_⟩) (by assumption) ?_
  rotate_left
  · (intro wz hSw; (try dsimp only at hSw); go_simp <;> with_reducible rfl)
  try simp only [Act.put, List.setIfInBounds_toArray, List.set_cons_zero, List.set_cons_succ]
  refine Rg.takeL (i := 5) (v := ?_) rfl (by kernel_rfl) (by kernel_rfl) (by kernel_rfl) (fun _ _ _ h => h) (Or.inl ⟨by rfl, ?_⟩) (by assumption) ?_
  rotate_left
  · (intro wz hSw; (have q0 := bd0 hSw.2.1; go_simp <;> with_reducible rfl))
  try simp only [Act.put, List.setIfInBounds_toArray, List.set_cons_zero, List.set_cons_succ]
  refine Rg.takeL (i := 6) (v := ?_) rfl (by kernel_rfl) (by kernel_rfl) (by kernel_rfl) (fun _ _ _ h => h) (Or.inl ⟨by rfl, ?_⟩) (by assumption) ?_
  rotate_left
  · (intro wz hSw; (try dsimp only at hSw); go_simp <;> with_reducible rfl)
  try simp only [Act.put, List.setIfInBounds_toArray, List.set_cons_zero, List.set_cons_succ]
  refine wpAnyH_ready (rs := [3]) (by kernel_rfl) (by simp) ?_
  refine Rg.readyL (i := 3) rfl (fun K hK => ?_)
  have q2 := ob2 HG7.out.own
  go_simp
  refine hK.out _ _ ?_ (fun hHeld => ?_)
  · exact hHeld
  clear hK K q2
  try simp only [Act.put, List.setIfInBounds_toArray, List.set_cons_zero, List.set_cons_succ]
  refine Rg.takeL (i := 7) (v := ?_) rfl (by kernel_rfl) (by kernel_rfl) (by kernel_rfl) (fun _ _ _ h => h) (Or.inl ⟨by rfl, ?_⟩) (by assumption) ?_
  rotate_left
  · (intro wz hSw; (have q0 := HW8.out; go_simp <;> with_reducible rfl))
  try simp only [Act.put, List.setIfInBounds_toArray, List.set_cons_zero, List.set_cons_succ]
  refine Rg.takeL (i := 8) (v := ?_) rfl (by kernel_rfl) (by kernel_rfl) (by kernel_rfl) (fun _ _ _ h => h) (Or.inl ⟨by rfl, ?_⟩) (by assumption) ?_
  rotate_left
  · (intro wz hSw; (try dsimp only at hSw); go_simp <;> with_reducible rfl)
  try simp only [Act.put, List.setIfInBounds_toArray, List.set_cons_zero, List.set_cons_succ]
  refine Rg.takeL (i := 9) (v := ?_) rfl (by kernel_rfl) (by kernel_rfl) (by kernel_rfl) (fun _ _ _ h => h) (Or.inl ⟨by rfl, ?_⟩) (by assumption) ?_
  rotate_left
  · (intro wz hSw; (try dsimp only at hSw); go_simp <;> with_reducible rfl)
  try simp only [Act.put, List.setIfInBounds_toArray, List.set_cons_zero, List.set_cons_succ]
  refine wpAnyH_ready (rs := [10]) (by kernel_rfl) (by simp) ?_
  refine Rg.readyL (i := 10) rfl (fun K hK => ?_)
  refine elimM (R := fun w' => Rg.Own w' bb (objA (some t) (some h) (n9 : Nat) tw) 56 ∧ Rg.Upd w7 bb w') (by rfl) ⟨_, run_stI (w := w7.drew) HG7.out.own (by simp [objA]) (n9 : Nat) ⟨_, _, rfl, rfl, rfl⟩, own_set HG7.out.own.drew _, upd_drew (upd_set _ _ _ _)⟩ ?_
  rintro w8 ⟨hn, hu⟩
  have HG8 := Lib.hid (HG7.out.cells hu hn)
  have HU8 := Lib.hid hu
  refine hK.out _ _ ?_ (fun hHeld => ?_)
  · exact ⟨(HLv7.out.off hu HNb3.out.1 HNb3.out.2.1 HNb3.out.2.2).b, HO97.out.upd hu (fun g => HNB.out.1 (.inl g)), trivial⟩
  clear hK K hn hu
  try simp only [Act.put, List.setIfInBounds_toArray, List.set_cons_zero, List.set_cons_succ]
  refine wpAnyH_done (by kernel_rfl) ?_ _
  refine NoPanic.normal ?_
  clear hHeld
  have HRes : Hid (LeaveP bb (some t) (some h) M l tw e s m c1 c2 c3 w (.returned (.bool false)) w8) := Lib.hid (by
    unfold LeaveP
    have hd := HDn.out
    rw [HL'.out, HXs.out] at hd
    rw [HL'.out, HXs.out, HKx.out, ← HWG.out]
    refine ⟨by rw [HTx.out]; rfl, ⟨M2, ⟨⟨Nh2, HNh2.out, HG8.out.congr (fun y _ => hd.1 y) hd.2.2.1.symm (fun _ _ _ => rfl) (fun _ => rfl) (by rw [HN9e.out])⟩, ?_, ?_, HFu2.out⟩, HMk.out, HMs.out, (HFry.out.upd HU7.out (.inl (.inr (.inl rfl)))).upd HU8.out (.inl (.inl rfl))⟩, HLv7.out.off HU8.out HNb3.out.1 HNb3.out.2.1 HNb3.out.2.2, _, w1, HRun.out, ?_⟩
    · rw [← HL'.out]; exact (oth_del HU.out e s).u'
    · rw [← HL'.out]; exact one_del HO.out e s
    · have hap := HGG.out.ap.m e m HM.out
      exact ((HU8.out.block m hap.1).trans (HU7.out.block m (fun g => hap.2.1 (by rw [g])))).trans HBmy.out)
  clear HU7 HU8 HG8 HG7 HLv7 HO7 HO97
  go_wp2
  go_ret
  exact HRes.out
set_option maxHeartbeats 8000000 in
theorem leave_ks {t h m c1 c2 c3 : Nat} {s : ByteArray} (hS : St bb (some t) (some h) M l tw w) (hr : hasR l e s = true) (he : W64 e) (hl : l.length ≤ 40) (hz : ∀ r ∈ l, r.s.size ≤ 200) (lv : Lv w bb e (some m) c1 c2 c3) (hM : M e = some m) (hc : ∀ k, k = c1 ∨ k = c2 ∨ k = c3 → ¬ KS bb (some t) (some h) M k) (hE : 0 < exN (delR l e s) e) (hT : 0 < epN (delR l e s) s) :
    Calls Tryd.prog 35 #[.agg (kc (sumB s)), .pointer (some ⟨c1, 0, none⟩), .pointer (some ⟨c2, 0, none⟩), .pointer (some ⟨c3, 0, none⟩)] w (LeaveP bb (some t) (some h) M l tw e s m c1 c2 c3 w) := by
  obtain ⟨Nh, hNe, g⟩ := hS.g
  obtain ⟨f1, f2, f3, f4, f5⟩ := del_fix hS.u hS.o hr
  have HE := Lib.hid he
  have HM := Lib.hid hM
  have HX : Hid (L32 (sumB s)) := Lib.hid (sumB_length s)
  have HU := Lib.hid hS.u
  have HO := Lib.hid hS.o
  have HR := Lib.hid hr
  have HFull := Lib.hid hS.full
  have HNe := Lib.hid hNe
  have HCc := Lib.hid hc
  have HEx := Lib.hid hE
  have HTx := Lib.hid hT
  have hrow : ∃ r ∈ l, r.s = s := by obtain ⟨r, h1, _, h2⟩ := hasR_iff.1 hr; exact ⟨r, h1, h2⟩
  have HSs : Hid (s.size ≤ 200) := Lib.hid (by obtain ⟨r, h1, h2⟩ := hrow; rw [← h2]; exact hz r h1)
  have HN8 : Hid (sizeT (textsR l) ≤ 8000) := Lib.hid (by
    have h1 := sizeT_le (T := textsR l) (fun t ht => by
      obtain ⟨r, hr, rfl⟩ := mem_texts.1 ht
      exact hz r hr) (textsR l).length
    rw [List.take_length] at h1
    have := texts_le l
    omega)
  have HNt : Hid ((textsR l).length < maxLen) := Lib.hid (by have := texts_le l; unfold maxLen; omega)
  have HQ : Hid (epN (delR l e s) s ≤ 40) := Lib.hid (by have := ep_le l s; omega)
  have HVt : Hid ((ftx l (sumB s)).getD (bodyV eB 0) = .agg (bodyA s (epN (delR l e s) s + 1))) := Lib.hid (by
    obtain ⟨r, h1, h2⟩ := hrow
    rw [ftx_at hS.o h1 h2, f5]
    rfl)
  have HGd : Hid (∀ wG w1, Sg bb (some t) (some h) M (ftx l) (textsR l).length (fix_ l) (exN l) Nh (sizeT (textsR l)) tw wG → MoS w1 (some m) (setF (fix_ l e) (sumB s) none) (fewer (fix_ l e) (sumB s) (exN l e)) → Rg.Upd wG m w1 → Sg bb (some t) (some h) M (ftx l) (textsR l).length (fix_ (delR l e s)) (exN (delR l e s)) Nh (sizeT (textsR l)) tw w1 ∧ MoS w1 (some m) (fix_ (delR l e s) e) (exN (delR l e s) e)) := Lib.hid fun wG w1 g h1 h2 => by
    have h3 : Sg bb (some t) (some h) M (ftx l) (textsR l).length (fix_ (delR l e s)) (exN (delR l e s)) Nh (sizeT (textsR l)) tw w1 := (g.sums hM h2 (by rw [hM]; exact h1)).congr (fun _ _ => rfl) rfl (fun e' y _ => by
      rw [f1]
      split <;> rfl) (fun e' => by
      by_cases q : e' = e
      · subst q; rw [if_pos rfl, f3]
      · rw [if_neg q, f4 e' q]) rfl
    have h4 := h3.inn e
    rw [hM] at h4
    exact ⟨h3, h4⟩
  obtain ⟨x, hx⟩ : ∃ x, sumB s = x := ⟨_, rfl⟩
  have HXs := Lib.hid hx
  obtain ⟨l', hl'⟩ : ∃ l', delR l e s = l' := ⟨_, rfl⟩
  have HL' := Lib.hid hl'
  obtain ⟨n, hn⟩ : ∃ n : Nat, sizeT (textsR l) = n := ⟨_, rfl⟩
  have HNn := Lib.hid hn
  rw [hn] at g HN8 HGd
  rw [hx] at HX HVt HGd
  rw [hl'] at HEx HTx HQ HVt HGd
  obtain ⟨q, hq⟩ : ∃ q, epN l' s = q := ⟨_, rfl⟩
  rw [hq] at HVt HQ HTx
  have HQq := Lib.hid hq
  obtain ⟨k, hk⟩ : ∃ k, kc x = k := ⟨_, rfl⟩
  have HKx := Lib.hid hk
  obtain ⟨wG, hwG⟩ : ∃ wG, wG = w.alloc (.cells k 43) := ⟨_, rfl⟩
  have hbG : Below w.heap.size w wG := by rw [hwG]; exact al1 _ _
  have HBG := Lib.hid hbG
  have HGG := Lib.hid (g.below hbG)
  have HIm : Hid (MoS wG (some m) (fix_ l e) (exN l e)) := Lib.hid (by have := (g.below hbG).inn e; rwa [hM] at this)
  have HLv := Lib.hid (lv.below hbG)
  have HO0 : Hid (Rg.Own wG w.heap.size k 43) := Lib.hid (by rw [hwG]; exact Rg.Own.new _ _ _)
  have HLt : Hid (∀ k, KS bb (some t) (some h) M k → k < w.heap.size) := Lib.hid g.lt
  have HWG := Lib.hid hwG
  have HLvs : Hid (c1 < w.heap.size ∧ c2 < w.heap.size ∧ c3 < w.heap.size) := Lib.hid ⟨lv.a.1, lv.b.1, lv.c.1⟩
  have q1 := lv1 (lv.below hbG)
  rw [hwG] at q1
  rw [hx, hk]
  clear hS hr he hl hz lv hM hc hE hT hNe g f1 f2 f3 f4 f5 hrow hx hl' hn hq hk hwG hbG
  obtain ⟨N1, hN1⟩ : ∃ N, exN l' e = N := ⟨_, rfl⟩
  have HN1 := Lib.hid hN1
  have HP1 : Hid (0 < N1) := Lib.hid (by rw [← hN1]; exact HEx.out)
  have r1 : ((N1 : Int) == 0) = false := by (rw [beq_eq_false_iff_ne]; have := HP1.out; omega)
  have r2 : decide ((N1 : Int) = 0) = false := decide_eq_false (by have := HP1.out; omega)
  have r3 : decide (N1 = 0) = false := decide_eq_false (by have := HP1.out; omega)
  have r4 : N1 ≠ 0 := (by have := HP1.out; omega)
  clear hN1
  go_enter Tryd.func35, Tryd.ntmps35
  go_wp2_with (first
    | (refine Rg.run rfl _ _ (op_ldK HX.out HKx.out (own_e HO0.out HWG.out.symm) ⟨_, rfl, rfl⟩) ?_)
    | (at_delete; rw [← HWG.out]; refine elimWv rfl (run_delI HIm.out HX.out HKx.out ⟨_, _, rfl, rfl, rfl⟩) ?_; rintro w1 ⟨hm1, hu1, hrun1⟩; have HG1 := Lib.hid (HGd.out _ _ HGG.out hm1 hu1).1; have HI1 := Lib.hid (HGd.out _ _ HGG.out hm1 hu1).2; have HU1 := Lib.hid hu1; have HRun := Lib.hid hrun1; have hcm := HCc.out; have hmk : KS bb (some t) (some h) M m := .inr (.inr (.inr ⟨e, HM.out⟩))
       have HLv1 := Lib.hid (HLv.out.off hu1 (fun g => hcm _ (.inl rfl) (by rw [g]; exact hmk)) (fun g => hcm _ (.inr (.inl rfl)) (by rw [g]; exact hmk)) (fun g => hcm _ (.inr (.inr rfl)) (by rw [g]; exact hmk))); have q2 := lv1 HLv1.out; have HO1 := Lib.hid (HO0.out.upd hu1 (fun g => by have := HLt.out _ hmk; omega)); clear hm1 hu1 hrun1 hcm hmk)
    | (at_len; refine Rg.run rfl _ _ (op_lenI' HI1.out HN1.out ⟨_, rfl, rfl⟩) ?_))
  obtain ⟨g0, hg0⟩ : ∃ g, w.heap.size = g := ⟨_, rfl⟩
  have HG0 : Hid (g0 = w.heap.size) := Lib.hid hg0.symm
  rw [hg0] at HO0 HO1 ⊢
  have hKm : KS bb (some t) (some h) M m := .inr (.inr (.inr ⟨e, HM.out⟩))
  have HFr1 := Lib.hid (((FrK.start (KS bb (some t) (some h) M) w).more HBG.out).upd HU1.out (.inl hKm))
  have HKm := Lib.hid hKm
  have HNh3 : Hid (c1 ≠ h ∧ c2 ≠ h ∧ c3 ≠ h) := Lib.hid (by
    have hcm := HCc.out
    exact ⟨fun g => hcm _ (.inl rfl) (by rw [g]; exact .inr (.inr (.inl rfl))), fun g => hcm _ (.inr (.inl rfl)) (by rw [g]; exact .inr (.inr (.inl rfl))), fun g => hcm _ (.inr (.inr rfl)) (by rw [g]; exact .inr (.inr (.inl rfl)))⟩)
  have HNt3 : Hid (c1 ≠ t ∧ c2 ≠ t ∧ c3 ≠ t) := Lib.hid (by
    have hcm := HCc.out
    exact ⟨fun g => hcm _ (.inl rfl) (by rw [g]; exact .inr (.inl rfl)), fun g => hcm _ (.inr (.inl rfl)) (by rw [g]; exact .inr (.inl rfl)), fun g => hcm _ (.inr (.inr rfl)) (by rw [g]; exact .inr (.inl rfl))⟩)
  have HNb3 : Hid (c1 ≠ bb ∧ c2 ≠ bb ∧ c3 ≠ bb) := Lib.hid (by
    have hcm := HCc.out
    exact ⟨fun g => hcm _ (.inl rfl) (by rw [g]; exact .inl rfl), fun g => hcm _ (.inr (.inl rfl)) (by rw [g]; exact .inl rfl), fun g => hcm _ (.inr (.inr rfl)) (by rw [g]; exact .inl rfl)⟩)
  clear hg0 hKm q1 q2
  have HG2 := HG1
  have HFr2 := HFr1
  have HFu2 : Hid (∀ e' m', M e' = some m' → 0 < exN l' e') := Lib.hid fun e' m' hh => by
    by_cases he : e' = e
    · rw [he]; exact HEx.out
    · have := (del_fix HU.out HO.out HR.out).2.2.2.1 e' he
      rw [HL'.out] at this
      rw [this]
      exact HFull.out e' m' hh
  have HNh2 : Hid (Nh = (epochsR l').length) := Lib.hid (by
    have h1 := (del_epochs HU.out HR.out).1
    rw [HL'.out] at h1
    rw [HNe.out, h1 HEx.out])
  have HLv2 := HLv1
  have HO2 := HO1
  obtain ⟨M2, hM2⟩ : ∃ M2, M2 = M := ⟨_, rfl⟩
  obtain ⟨Nh2, hN2⟩ : ∃ N, N = Nh := ⟨_, rfl⟩
  have HMx := HM
  rw [← hM2] at HG2 HFu2
  have HFr2 : Hid (FrK (KS bb (some t) (some h) M) (KS bb (some t) (some h) M2) w w1) := Lib.hid (by rw [hM2]; exact HFr1.out)
  have HMk : Hid (∀ k, KS bb (some t) (some h) M2 k → KS bb (some t) (some h) M k) := Lib.hid (by rw [hM2]; exact fun k hk => hk)
  have HMs : Hid (0 < exN l' e → M2 = M) := Lib.hid fun _ => hM2
  rw [← hN2] at HG2 HNh2
  obtain ⟨w2, hw2⟩ : ∃ w2, w2 = w1 := ⟨_, rfl⟩
  rw [← hw2] at HG2 HLv2 HO2 HFr2 ⊢
  have HBm : Hid (w2.heap[m]? = w1.heap[m]?) := Lib.hid (by rw [hw2])
  clear hM2 hN2 hw2 HG1 HLv1 HO1 HFr1
  refine wp_region_noPanic ?_
  refine wp_region_held_drew (S := fun wz => Rg.Own wz c2 #[.pointer (some ⟨bb, 0, none⟩)] 23 ∧ Rg.Own wz bb (objA (some t) (some h) n tw) 56 ∧ Rg.Own wz g0 k 43 ∧ MoS wz (some t) (ftx l) (textsR l).length) (by kernel_rfl) (⟨HLv2.out.b, HG2.out.own, HO2.out, HG2.out.tx.same fun _ _ => rfl⟩) (fun hHeld => ?_)
  refine Rg.takeL (i := 0) (v := ?_) rfl (by kernel_rfl) (by kernel_rfl) (by kernel_rfl) (fun _ _ _ h => h) (Or.inl ⟨by rfl, ?_⟩) (by assumption) ?_
  rotate_left
  · (intro wz hSw; (have q0 := box_cell hSw.1; go_simp <;> with_reducible rfl))
  try simp only [Act.put, List.setIfInBounds_toArray, List.set_cons_zero, List.set_cons_succ]
  refine Rg.takeL (i := 1) (v := ?_) rfl (by kernel_rfl) (by kernel_rfl) (by kernel_rfl) (fun _ _ _ h => h) (Or.inl ⟨by rfl, ?_⟩) (by assumption) ?_
  rotate_left
  · (intro wz hSw; (try dsimp only at hSw); go_simp <;> with_reducible rfl)
  try simp only [Act.put, List.setIfInBounds_toArray, List.set_cons_zero, List.set_cons_succ]
  refine Rg.takeL (i := 2) (v := ?_) rfl (by kernel_rfl) (by kernel_rfl) (by kernel_rfl) (fun _ _ _ h => h) (Or.inl ⟨by rfl, ?_⟩) (by assumption) ?_
  rotate_left
  · (intro wz hSw; (try dsimp only at hSw); go_simp <;> with_reducible rfl)
  try simp only [Act.put, List.setIfInBounds_toArray, List.set_cons_zero, List.set_cons_succ]
  refine Rg.takeL (i := 3) (v := ?_) rfl (by kernel_rfl) (by kernel_rfl) (by kernel_rfl) (fun _ _ _ h => h) (Or.inl ⟨by rfl, ?_⟩) (by assumption) ?_
  rotate_left
  · (intro wz hSw; (have q0 := ob0 hSw.2.1; go_simp <;> with_reducible rfl))
  try simp only [Act.put, List.setIfInBounds_toArray, List.set_cons_zero, List.set_cons_succ]
  refine Rg.takeL (i := 4) (v := ?_) rfl (by kernel_rfl) (by kernel_rfl) (by kernel_rfl) (fun _ _ _ h => h) (Or.inl ⟨by rfl, ?_⟩) (by assumption) ?_
  rotate_left
  · (intro wz hSw; (refine op_ldK HX.out HKx.out hSw.2.2.1 ?_; exact ⟨_, rfl, rfl⟩))
  try simp only [Act.put, List.setIfInBounds_toArray, List.set_cons_zero, List.set_cons_succ]
  refine Rg.takeL (i := 5) (v := ?_) rfl (by kernel_rfl) (by kernel_rfl) (by kernel_rfl) (fun _ _ _ h => h) (Or.inl ⟨by rfl, ?_⟩) (by assumption) ?_
  rotate_left
  · (intro wz hSw; (refine op_lookT' (V := .agg (bodyA s (q + 1))) hSw.2.2.2 HX.out HKx.out HVt.out ?_; exact ⟨_, _, rfl, rfl, rfl⟩))
  try simp only [Act.put, List.setIfInBounds_toArray, List.set_cons_zero, List.set_cons_succ]
  refine wpAnyH_ready (rs := [6]) (by kernel_rfl) (by simp) ?_
  refine Rg.readyL (i := 6) rfl (fun K hK => ?_)
  refine Rg.meetAlloc (by rfl) (run_alloc_body _ _ _ _ rfl rfl) ?_
  rintro wv b9 he9 h9 hbx
  have HG9 : Hid (b9 = w2.heap.size) := Lib.hid he9
  have HB9 : Hid (Below w2.heap.size w2 wv) := Lib.hid ((Below.refl _ _).drew.trans hbx)
  clear he9
  refine hK.out _ _ ?_ (fun hHeld => ?_)
  · exact ⟨(HLv2.out.below HB9.out).b, HG2.out.own.below HB9.out, HO2.out.below HB9.out, HG2.out.tx.same fun b e => HB9.out.block b (HG2.out.tx.lt e)⟩
  clear hK K hbx
  try simp only [Act.put, List.setIfInBounds_toArray, List.set_cons_zero, List.set_cons_succ]
  refine wpAnyH_ready (rs := [7]) (by kernel_rfl) (by simp) ?_
  refine Rg.readyL (i := 7) rfl (fun K hK => ?_)
  refine Rg.meetStore (by rfl) h9 68 (bodyA s (q + 1)) ⟨_, _, rfl, rfl, rfl⟩ info_body rfl (bodyA_one _ _) ?_
  rintro wu hn hu
  have HO9 : Hid (Rg.Own wu b9 (bodyA s (q + 1)) 68) := Lib.hid hn
  have HB10 : Hid (Below w2.heap.size w2 wu) := Lib.hid (hu.below HB9.out (by rw [HG9.out]; exact Nat.le_refl _))
  refine hK.out _ _ ?_ (fun hHeld => ?_)
  · exact ⟨(HLv2.out.below HB10.out).b, HG2.out.own.below HB10.out, HO2.out.below HB10.out, HG2.out.tx.same fun b e => HB10.out.block b (HG2.out.tx.lt e)⟩
  clear hK K hn hu h9 HB9
  try simp only [Act.put, List.setIfInBounds_toArray, List.set_cons_zero, List.set_cons_succ]
  refine wpAnyH_done (by kernel_rfl) ?_ _
  refine NoPanic.normal ?_
  clear hHeld
  have HG4 := Lib.hid (HG2.out.below HB10.out)
  have HLv4 := Lib.hid (HLv2.out.below HB10.out)
  have HO4 := Lib.hid (HO2.out.below HB10.out)
  have HNB : Hid (¬ KS bb (some t) (some h) M2 b9 ∧ g0 ≠ b9 ∧ c1 ≠ b9 ∧ c2 ≠ b9 ∧ c3 ≠ b9) := Lib.hid (by
    have h1 := HG9.out
    have h2 := HO2.out.1
    have h3 := HLv2.out.a.1
    have h4 := HLv2.out.b.1
    have h5 := HLv2.out.c.1
    exact ⟨fun g => by have := HG2.out.lt _ g; omega, by omega, by omega, by omega, by omega⟩)
  have HFr4 := Lib.hid (HFr2.out.more HB10.out)
  have HBm4 : Hid (wu.heap[m]? = w1.heap[m]?) := Lib.hid ((HB10.out.block m (by have := HLt.out m HKm.out; have := HFr2.out.size; omega)).trans HBm.out)
  obtain ⟨Q1, hQ1⟩ : ∃ Q1, q + 1 = Q1 := ⟨_, rfl⟩
  rw [hQ1] at HO9
  have q7 : wu.cell? ⟨b9, 1, none⟩ = some (.int .i64 (Q1 : Int)) := bd1 HO9.out
  have q8 : IntKind.i64.wrap ((Q1 : Int) - 1) = ((q : Nat) : Int) := by
    have := HQ.out
    simp only [IntKind.wrap_i64, wrap64]
    omega
  clear hQ1
  have r5 : (((q : Nat) : Int) == 0) = false := by (rw [beq_eq_false_iff_ne]; have := HTx.out; omega)
  have r6 : decide (((q : Nat) : Int) = 0) = false := decide_eq_false (by have := HTx.out; omega)
  have r7 : decide (q = 0) = false := decide_eq_false (by have := HTx.out; omega)
  have r8 : q ≠ 0 := (by have := HTx.out; omega)
  go_wp2_with (first
    | (refine elimW (R := fun w' => Rg.Own w' b9 (bodyA s q) 68 ∧ Rg.Upd wu b9 w') rfl ⟨_, run_stI HO9.out (by simp [bodyA]) _ ⟨_, _, rfl, rfl, rfl⟩, own_set HO9.out _, upd_set _ _ _ _⟩ ?_; rintro wy ⟨hoo, huu⟩; have HOy := Lib.hid hoo; have HUy := Lib.hid huu; have q9 := bd1 hoo; clear hoo huu))
  have HGy := Lib.hid (HG4.out.off HUy.out HNB.out.1)
  have HLvy := Lib.hid (HLv4.out.off HUy.out HNB.out.2.2.1 HNB.out.2.2.2.1 HNB.out.2.2.2.2)
  have HOky := Lib.hid (HO4.out.upd HUy.out HNB.out.2.1)
  have HFry := Lib.hid (HFr4.out.upd HUy.out (.inr (by have := HG9.out; have := HFr2.out.size; omega)))
  have HBmy : Hid (wy.heap[m]? = w1.heap[m]?) := Lib.hid ((HUy.out.block m (fun g => by have := HLt.out m HKm.out; have := HG9.out; have := HFr2.out.size; omega)).trans HBm4.out)
  clear HG4 HLv4 HO4 HFr4 HBm4 HG2 HLv2 HO2 HFr2 HBm
  refine wp_region_noPanic ?_
  refine wp_region_held_drew (S := fun wz => Rg.Own wz c2 #[.pointer (some ⟨bb, 0, none⟩)] 23 ∧ Rg.Own wz bb (objA (some t) (some h) n tw) 56 ∧ Rg.Own wz g0 k 43 ∧ Rg.Own wz b9 (bodyA s q) 68) (by kernel_rfl) (⟨HLvy.out.b, HGy.out.own, HOky.out, HOy.out⟩) (fun hHeld => ?_)
  refine Rg.takeL (i := 0) (v := ?_) rfl (by kernel_rfl) (by kernel_rfl) (by kernel_rfl) (fun _ _ _ h => h) (Or.inl ⟨by rfl, ?_⟩) (by assumption) ?_
  rotate_left
  · (intro wz hSw; (have q0 := box_cell hSw.1; go_simp <;> with_reducible rfl))
  try simp only [Act.put, List.setIfInBounds_toArray, List.set_cons_zero, List.set_cons_succ]
  refine Rg.takeL (i := 1) (v := ?_) rfl (by kernel_rfl) (by kernel_rfl) (by kernel_rfl) (fun _ _ _ h => h) (Or.inl ⟨by rfl, ?_⟩) (by assumption) ?_
  rotate_left
  · (intro wz hSw; (try dsimp only at hSw); go_simp <;> with_reducible rfl)
  try simp only [Act.put, List.setIfInBounds_toArray, List.set_cons_zero, List.set_cons_succ]
  refine Rg.takeL (i := 2) (v := ?_) rfl (by kernel_rfl) (by kernel_rfl) (by kernel_rfl) (fun _ _ _ h => h) (Or.inl ⟨by rfl, ?_⟩) (by assumption) ?_
  rotate_left
  · (intro wz hSw; (try dsimp only at hSw); go_simp <;> with_reducible rfl)
  try simp only [Act.put, List.setIfInBounds_toArray, List.set_cons_zero, List.set_cons_succ]
  refine Rg.takeL (i := 3) (v := ?_) rfl (by kernel_rfl) (by kernel_rfl) (by kernel_rfl) (fun _ _ _ h => h) (Or.inl ⟨by rfl, ?_⟩) (by assumption) ?_
  rotate_left
  · (intro wz hSw; (have q0 := ob0 hSw.2.1; go_simp <;> with_reducible rfl))
  try simp only [Act.put, List.setIfInBounds_toArray, List.set_cons_zero, List.set_cons_succ]
  refine Rg.takeL (i := 4) (v := ?_) rfl (by kernel_rfl) (by kernel_rfl) (by kernel_rfl) (fun _ _ _ h => h) (Or.inl ⟨by rfl, ?_⟩) (by assumption) ?_
  rotate_left
  · (intro wz hSw; (refine op_ldK HX.out HKx.out hSw.2.2.1 ?_; exact ⟨_, rfl, rfl⟩))
  try simp only [Act.put, List.setIfInBounds_toArray, List.set_cons_zero, List.set_cons_succ]
  refine Rg.takeL (i := 5) (v := ?_) rfl (by kernel_rfl) (by kernel_rfl) (by kernel_rfl) (fun _ _ _ h => h) (Or.inl ⟨by rfl, ?_⟩) (by assumption) ?_
  rotate_left
  · (intro wz hSw; (refine op_ldB hSw.2.2.2 ?_; exact ⟨_, rfl, rfl⟩))
  try simp only [Act.put, List.setIfInBounds_toArray, List.set_cons_zero, List.set_cons_succ]
  refine wpAnyH_ready (rs := [6]) (by kernel_rfl) (by simp) ?_
  refine Rg.readyL (i := 6) rfl (fun K hK => ?_)
  refine elimM (by rfl) (run_putT (HGy.out.tx.same (w' := wy.drew) fun _ _ => rfl) HNt.out HX.out HKx.out (.agg (bodyA s q)) ⟨_, _, _, rfl, rfl, rfl, rfl⟩) ?_
  rintro w7 ⟨hm7, hu7⟩
  have HU7 := Lib.hid (upd_drew hu7)
  have HG7 := Lib.hid (HGy.out.texts rfl HU7.out hm7)
  have HLv7 := Lib.hid (HLvy.out.off HU7.out HNt3.out.1 HNt3.out.2.1 HNt3.out.2.2)
  have HO7 := Lib.hid (HOky.out.upd HU7.out (fun g => by have := HLt.out t (.inr (.inl rfl)); have := HG0.out; omega))
  refine hK.out _ _ ?_ (fun hHeld => ?_)
  · exact ⟨HLv7.out.b, HG7.out.own, HO7.out, HOy.out.upd HU7.out (fun g => HNB.out.1 (.inr (.inl (by rw [g]))))⟩
  clear hK K hm7 hu7
  try simp only [Act.put, List.setIfInBounds_toArray, List.set_cons_zero, List.set_cons_succ]
  refine wpAnyH_done (by kernel_rfl) ?_ _
  refine NoPanic.normal ?_
  clear hHeld
  have HRes : Hid (LeaveP bb (some t) (some h) M l tw e s m c1 c2 c3 w (.returned (.bool true)) w7) := Lib.hid (by
    unfold LeaveP
    have hp : 0 < epN (delR l e s) s := by rw [HL'.out, HQq.out]; exact HTx.out
    have hd := del_more (e := e) HU.out HO.out hp
    rw [HL'.out, HXs.out] at hd
    rw [HL'.out, HXs.out, HKx.out, ← HWG.out]
    refine ⟨by rw [HQq.out, decide_eq_true HTx.out], ⟨M2, ⟨⟨Nh2, HNh2.out, HG7.out.congr (fun y _ => by rw [hd.1 y, HQq.out]; rfl) (by rw [hd.2.2.1, hd.2.1]) (fun _ _ _ => rfl) (fun _ => rfl) (by rw [hd.2.2.2, HNn.out])⟩, ?_, ?_, HFu2.out⟩, HMk.out, HMs.out, HFry.out.upd HU7.out (.inl (.inr (.inl rfl)))⟩, HLv7.out, _, w1, HRun.out, ?_⟩
    · rw [← HL'.out]; exact (oth_del HU.out e s).u'
    · rw [← HL'.out]; exact one_del HO.out e s
    · exact (HU7.out.block m (fun g => (HGG.out.ap.m e m HM.out).2.1 (by rw [g]))).trans HBmy.out)
  clear HU7 HG7 HLv7 HO7 q7 q8 q9
  go_wp2
  go_ret
  exact HRes.out
end
end Bd
end Go.Proofs.YtlembfhdljmcoaaDoor
