/-
  RlpHeads: what stands ahead of any number of bytes is the plain answer's; whether any two items are the same is the plain answer's; a text and a list are the items of their parts; for every number and every two items (where an item is far too great: the law asks what comes at any rate).
-/
import Derived.Test.YtmnihiagkmdepaaRs
import Derived.Test.YtmnihiagkmdepaaRc
import Derived.Test.YtmnihiagkmdepaaLh
import Derived.Test.YtmnihiagkmdepaaItIn
import Derived.OpenShut
import Derived.ChangeOld
namespace Go.Proofs.Ytmnihiagkmdepaa.rlpHeads
open Go.ChangeShapes Go.WideShapes Go.ChangeAt Go.RowKit
open Rl

theorem run_alloc_it (ev : Operand → Value) (o : Oper) (ho : o.op = .alloc 24) (w : World) :
    (execOp ev o).run Try.prog w = .ok (.value (.pointer (some ⟨w.heap.size, 0, none⟩))) (w.alloc (.cells (itC it0 none 0 0) 24)) := by
  unfold execOp
  rw [ho]
  kernel_rfl

theorem same_same (x : It) (w : World) (u v : Value) (hu : IsIt w x u) (hv : IsIt w x v) : Calls Try.prog 10 #[u, v] w fun e w' => e = .returned (.bool true) ∧ Below w.heap.size w w' := by
  have := same_any x x w u v hu hv
  rw [sameB_true rfl] at this
  exact this
/-- a slice of two items is made -/
theorem meetPair {o : Oper} {a : Act} {w : World} {K : Act → World → Prop} {Q : Exit → Act → World → Prop} {ops : Array Oper} {x y : It} {A D : Option Addr} {An Ac Dn Dc : Nat} (hw : Region.wanted o (yielded ops a.tmps) = true)
    (ho : ∃ p q, o.op = .buildSlice 22 2 #[(0, p), (1, q)] ∧ a.eval p = .agg #[.bool x.l, .string x.s, .slice A An Ac] ∧ a.eval q = .agg #[.bool y.l, .string y.s, .slice D Dn Dc])
    (h : ∀ w' b, Rg.Own w' b #[.bool x.l, .string x.s, .slice A An Ac, .bool y.l, .string y.s, .slice D Dn Dc] 24 → Below w.heap.size w w' → K (a.put o.dst (.slice (some ⟨b, 0, none⟩) 2 2)) w') : if Region.wanted o (yielded ops a.tmps) = true then Oper.wp Try.prog o a w K Q else K (a.put o.dst undef) w := by
  obtain ⟨p, q, ho, hp, hq⟩ := ho
  obtain ⟨i0, hi, hz, hs, hby⟩ := info_parts info_it_all
  refine Rg.want hw (wp_buildSlice 22 24 2 _ ho #[.bool x.l, .string x.s, .slice A An Ac, .bool y.l, .string y.s, .slice D Dn Dc] i0 _ Try.underlying22 hi hz (by rw [hs]; decide) (by rw [hs]; decide) ?_ (h _ _ (Rg.Own.new _ _ _) (al1 _ _)))
  simp only [List.map_toArray, List.map_cons, List.map_nil, hp, hq, hs]
  kernel_rfl

set_option maxRecDepth 100000 in
set_option maxHeartbeats 16000000 in
theorem walk (N : Int) (hN : N < 2 ^ 63) (l : Bool) (a b : It) (A D : Option Addr) (An Ac Dn Dc : Nat) (w : World) (ha : IsIts w a.xs A An Ac) (hb : IsIts w b.xs D Dn Dc) :
    Calls Try.prog 3 #[.agg #[.int .i64 N, .bool l, .bool a.l, .string a.s, .slice A An Ac, .bool b.l, .string b.s, .slice D Dn Dc]] w fun e w' => e = .returned (.bool true) ∧ Below w.heap.size w w' := by
  obtain ⟨wb, hwb⟩ : ∃ wb, wb = w.alloc (.cells #[.int .i64 N, .bool l, .bool a.l, .string a.s, .slice A An Ac, .bool b.l, .string b.s, .slice D Dn Dc] 26) := ⟨_, rfl⟩
  have hC : ∀ wz, Below wb.heap.size wb wz → wz.cell? ⟨w.heap.size, 0, none⟩ = some (.int .i64 N) ∧ wz.cell? ⟨w.heap.size, 1, none⟩ = some (.bool l) ∧ wz.cell? ⟨w.heap.size, 2, none⟩ = some (.bool a.l) ∧ wz.cell? ⟨w.heap.size, 3, none⟩ = some (.string a.s) ∧
      wz.cell? ⟨w.heap.size, 4, none⟩ = some (.slice A An Ac) ∧ wz.cell? ⟨w.heap.size, 5, none⟩ = some (.bool b.l) ∧ wz.cell? ⟨w.heap.size, 6, none⟩ = some (.string b.s) ∧ wz.cell? ⟨w.heap.size, 7, none⟩ = some (.slice D Dn Dc) := fun wz hz => by
    have hlt : w.heap.size < wb.heap.size := by rw [hwb]; simp
    refine ⟨?_, ?_, ?_, ?_, ?_, ?_, ?_, ?_⟩
    all_goals
      rw [hz.cell (p := ⟨w.heap.size, _, none⟩) hlt, hwb, World.cell?_alloc_mark]
      rfl
  have HC := Lib.hid hC
  have HWb : Hid (Below w.heap.size w wb) := Lib.hid (by rw [hwb]; exact al1 _ _)
  have HA := Lib.hid ha
  have HB := Lib.hid hb
  have HAw := Lib.hid (fun w => awake_any w)
  have hSm := fun w1 (hw : Below w.heap.size w w1) => same_any a b w1 (itV a A An Ac) (itV b D Dn Dc) ⟨A, An, Ac, rfl, ha.stays hw⟩ ⟨D, Dn, Dc, rfl, hb.stays hw⟩
  have hRs := fun w1 (hw : Below w.heap.size w w1) => rsame_any a b w1 (itV a A An Ac) (itV b D Dn Dc) ⟨A, An, Ac, rfl, ha.stays hw⟩ ⟨D, Dn, Dc, rfl, hb.stays hw⟩
  obtain ⟨sb, hsb⟩ : ∃ sb, sameB a b = sb := ⟨_, rfl⟩
  rw [hsb] at hSm hRs
  unfold itV at hSm hRs
  have HSm := Lib.hid hSm
  have HRs := Lib.hid hRs
  have hHd := fun w => head_any N hN l w
  have hRh := fun w => rhead_any (clampH N) (clampH_le N) l w
  obtain ⟨hs, hhs⟩ : ∃ hs, headS (clampH N) l = hs := ⟨_, rfl⟩
  rw [hhs] at hHd hRh
  have HHd := Lib.hid hHd
  have HRh := Lib.hid hRh
  have hLo := fun w => Lh.low_any N 4294967296 w
  obtain ⟨L0, hL0⟩ : ∃ L0, (if N < 4294967296 then N else 4294967296) = L0 := ⟨_, rfl⟩
  have hHi := fun w => Lh.high_any L0 0 w
  have hK : (if 0 < L0 then L0 else 0) = ((clampH N : Nat) : Int) := by
    rw [← hL0]
    unfold clampH
    by_cases h1 : N < 4294967296
    · rw [if_pos h1]
      by_cases h2 : 0 < N
      · rw [if_pos h2]; omega
      · rw [if_neg h2]; omega
    · rw [if_neg h1, if_pos (by omega)]; omega
  rw [hL0] at hLo
  rw [hK] at hHi
  have HLo := Lib.hid hLo
  have HHi := Lib.hid hHi
  obtain ⟨K, hKK⟩ : ∃ K, clampH N = K := ⟨_, rfl⟩
  rw [hKK] at HHi HRh
  have HTx := Lib.hid (fun w => text_any ⟨#[120]⟩ w)
  have HXx := Lib.hid (fun w => same_same (.mk false ⟨#[120]⟩ []) w _ _ ⟨none, 0, 0, rfl, ItsIn.nil _ _⟩ ⟨none, 0, 0, rfl, ItsIn.nil _ _⟩)
  unfold itV at HTx HXx
  dsimp only [It.l, It.s] at HTx HXx
  clear hC ha hb hSm hRs hsb hHd hRh hhs hLo hL0 hHi hK hKK
  go_enter Try.func3, Try.ntmps3
  go_wp2_with fail
  rw [← hwb]
  clear hwb
  refine wp_region_noPanic ?_
  refine wp_region_held_drew (S := fun w' => Below wb.heap.size wb w') (by kernel_rfl) ((Below.refl _ _).drew) (fun hHeld => ?_)
  refine Rg.takeL (i := 0) (v := ?_) rfl (by kernel_rfl) (by kernel_rfl) (by kernel_rfl) (fun _ _ _ h => h) (Or.inl ⟨by rfl, ?_⟩) (by assumption) ?_
  rotate_left
  · (intro wz hSw; (try dsimp only at hSw); go_simp <;> with_reducible rfl)
  try simp only [Act.put, List.setIfInBounds_toArray, List.set_cons_zero, List.set_cons_succ]
  refine Rg.takeL (i := 1) (v := ?_) rfl (by kernel_rfl) (by kernel_rfl) (by kernel_rfl) (fun _ _ _ h => h) (Or.inl ⟨by rfl, ?_⟩) (by assumption) ?_
  rotate_left
  · (intro wz hSw; obtain ⟨z0, z1, z2, z3, z4, z5, z6, z7⟩ := HC.out wz hSw; go_simp <;> with_reducible rfl)
  try simp only [Act.put, List.setIfInBounds_toArray, List.set_cons_zero, List.set_cons_succ]
  refine Rg.takeL (i := 2) (v := ?_) rfl (by kernel_rfl) (by kernel_rfl) (by kernel_rfl) (fun _ _ _ h => h) (Or.inl ⟨by rfl, ?_⟩) (by assumption) ?_
  rotate_left
  · (intro wz hSw; (try dsimp only at hSw); go_simp <;> with_reducible rfl)
  try simp only [Act.put, List.setIfInBounds_toArray, List.set_cons_zero, List.set_cons_succ]
  refine Rg.takeL (i := 3) (v := ?_) rfl (by kernel_rfl) (by kernel_rfl) (by kernel_rfl) (fun _ _ _ h => h) (Or.inl ⟨by rfl, ?_⟩) (by assumption) ?_
  rotate_left
  · (intro wz hSw; obtain ⟨z0, z1, z2, z3, z4, z5, z6, z7⟩ := HC.out wz hSw; go_simp <;> with_reducible rfl)
  try simp only [Act.put, List.setIfInBounds_toArray, List.set_cons_zero, List.set_cons_succ]
  refine Rg.takeL (i := 4) (v := ?_) rfl (by kernel_rfl) (by kernel_rfl) (by kernel_rfl) (fun _ _ _ h => h) (Or.inl ⟨by rfl, ?_⟩) (by assumption) ?_
  rotate_left
  · (intro wz hSw; (try dsimp only at hSw); go_simp <;> with_reducible rfl)
  try simp only [Act.put, List.setIfInBounds_toArray, List.set_cons_zero, List.set_cons_succ]
  refine Rg.takeL (i := 5) (v := ?_) rfl (by kernel_rfl) (by kernel_rfl) (by kernel_rfl) (fun _ _ _ h => h) (Or.inl ⟨by rfl, ?_⟩) (by assumption) ?_
  rotate_left
  · (intro wz hSw; obtain ⟨z0, z1, z2, z3, z4, z5, z6, z7⟩ := HC.out wz hSw; go_simp <;> with_reducible rfl)
  try simp only [Act.put, List.setIfInBounds_toArray, List.set_cons_zero, List.set_cons_succ]
  refine Rg.takeL (i := 6) (v := ?_) rfl (by kernel_rfl) (by kernel_rfl) (by kernel_rfl) (fun _ _ _ h => h) (Or.inl ⟨by rfl, ?_⟩) (by assumption) ?_
  rotate_left
  · (intro wz hSw; (try dsimp only at hSw); go_simp <;> with_reducible rfl)
  try simp only [Act.put, List.setIfInBounds_toArray, List.set_cons_zero, List.set_cons_succ]
  refine Rg.takeL (i := 7) (v := ?_) rfl (by kernel_rfl) (by kernel_rfl) (by kernel_rfl) (fun _ _ _ h => h) (Or.inl ⟨by rfl, ?_⟩) (by assumption) ?_
  rotate_left
  · (intro wz hSw; obtain ⟨z0, z1, z2, z3, z4, z5, z6, z7⟩ := HC.out wz hSw; go_simp <;> with_reducible rfl)
  try simp only [Act.put, List.setIfInBounds_toArray, List.set_cons_zero, List.set_cons_succ]
  refine wpAnyH_ready (rs := [8, 9]) (by kernel_rfl) (by simp) ?_
  refine Rg.readyC (i := 8) rfl (fun K hK => ?_) (Rg.readyL (i := 9) rfl (fun K hK => ?_))
  · refine Rg.meetAlloc (by rfl) (run_alloc_it _ _ rfl _) ?_
    rintro wv0 b8 he8 h8 hbx
    have ge8 : wb.heap.size ≤ b8 := by rw [he8]; exact Below.size hHeld
    clear he8
    refine hK.out _ _ ?_ (fun hHeld => ?_)
    · exact Below.trans hHeld (hbx.mono hHeld.size)
    clear hK K hbx
    try simp only [Act.put, List.setIfInBounds_toArray, List.set_cons_zero, List.set_cons_succ]
    refine wpAnyH_ready (rs := [9]) (by kernel_rfl) (by simp) ?_
    refine Rg.readyL (i := 9) rfl (fun K hK => ?_)
    refine Rg.meetAlloc (by rfl) (run_alloc_it _ _ rfl _) ?_
    rintro wv1 b9 he9 h9 hbx
    have ge9 : wb.heap.size ≤ b9 := by rw [he9]; exact Below.size hHeld
    have ne8_9 : b8 ≠ b9 := by have := h8.1; omega
    replace h8 := h8.below hbx
    clear he9
    refine hK.out _ _ ?_ (fun hHeld => ?_)
    · exact Below.trans hHeld (hbx.mono hHeld.size)
    clear hK K hbx
    try simp only [Act.put, List.setIfInBounds_toArray, List.set_cons_zero, List.set_cons_succ]
    refine Rg.takeL (i := 10) (v := ?_) rfl (by kernel_rfl) (by kernel_rfl) (by kernel_rfl) (fun _ _ _ h => h) (Or.inl ⟨by rfl, ?_⟩) (by assumption) ?_
    rotate_left
    · (intro wz hSw; (try dsimp only at hSw); go_simp <;> with_reducible rfl)
    try simp only [Act.put, List.setIfInBounds_toArray, List.set_cons_zero, List.set_cons_succ]
    refine Rg.takeL (i := 11) (v := ?_) rfl (by kernel_rfl) (by kernel_rfl) (by kernel_rfl) (fun _ _ _ h => h) (Or.inl ⟨by rfl, ?_⟩) (by assumption) ?_
    rotate_left
    · (intro wz hSw; (try dsimp only at hSw); go_simp <;> with_reducible rfl)
    try simp only [Act.put, List.setIfInBounds_toArray, List.set_cons_zero, List.set_cons_succ]
    refine wpAnyH_ready (rs := [12]) (by kernel_rfl) (by simp) ?_
    refine Rg.readyL (i := 12) rfl (fun K hK => ?_)
    refine Rg.meetStore (by rfl) h8 24 (itC a A An Ac) ⟨_, _, rfl, rfl, rfl⟩ (info_itC _ _ _ _) (rfl) (itC_one _ _ _ _) ?_
    rintro wv2 hn hu
    replace h9 := h9.upd hu (Ne.symm ne8_9)
    refine hK.out _ _ ?_ (fun hHeld => ?_)
    · exact hu.below hHeld ge8
    replace h8 := hn
    clear hK K hn hu
    try simp only [Act.put]
    refine wpAnyH_ready (rs := [13]) (by kernel_rfl) (by simp) ?_
    refine Rg.readyL (i := 13) rfl (fun K hK => ?_)
    refine Rg.meetStore (by rfl) h9 24 (itC b D Dn Dc) ⟨_, _, rfl, rfl, rfl⟩ (info_itC _ _ _ _) (rfl) (itC_one _ _ _ _) ?_
    rintro wv3 hn hu
    replace h8 := h8.upd hu ne8_9
    refine hK.out _ _ ?_ (fun hHeld => ?_)
    · exact hu.below hHeld ge9
    replace h9 := hn
    clear hK K hn hu
    try simp only [Act.put]
    refine wpAnyH_done (by kernel_rfl) ?_ _
    refine NoPanic.normal ?_
    have HOa := Lib.hid h8
    have HOb := Lib.hid h9
    have HW := Lib.hid (show Below w.heap.size w wv3 from HWb.out.trans (hHeld.mono HWb.out.size))
    clear hHeld h8 h9 ge8 ge9
    try clear ne8_9
    obtain ⟨c0, c1, c2⟩ := lies_row HOa.out.2
    have HLa := Lib.hid (light_any a wv3 (itV a A An Ac) ⟨A, An, Ac, rfl, HA.out.stays HW.out⟩)
    unfold itV at HLa
    go_wp2_with fail
    with_reducible refine HLa.out.mono ?_
    rintro e w4 ⟨ba, rfl, hb4⟩
    have HOa4 := Lib.hid (HOa.out.below hb4)
    have HOb4 := Lib.hid (HOb.out.below hb4)
    have HWx := Lib.hid (below_step' HW.out hb4)
    clear hb4 c0 c1 c2 HLa HOa HOb HW
    cases ba
    rotate_left
    obtain ⟨c0, c1, c2⟩ := lies_row HOb4.out.2
    have HLb := Lib.hid (light_any b w4 (itV b D Dn Dc) ⟨D, Dn, Dc, rfl, HB.out.stays HWx.out⟩)
    unfold itV at HLb
    go_wp2_with fail
    with_reducible refine HLb.out.mono ?_
    rintro e w5 ⟨bb, rfl, hb5⟩
    have HOa5 := Lib.hid (HOa4.out.below hb5)
    have HOb5 := Lib.hid (HOb4.out.below hb5)
    replace HWx := Lib.hid (below_step' HWx.out hb5)
    clear hb5 c0 c1 c2 HLb HOa4 HOb4
    cases bb
    rotate_left
    have HW5 := HWx
    clear HWx
    go_wp2_with fail
    with_reducible refine (HLo.out _).mono ?_
    rintro e w6 ⟨rfl, rfl⟩
    go_wp2_with fail
    with_reducible refine (HHi.out _).mono ?_
    rintro e w7 ⟨rfl, rfl⟩
    go_wp2_with fail
    refine wp_region_noPanic ?_
    refine wp_region_held_drew (S := fun w' => Rg.Own w' b8 (itC a A An Ac) 24 ∧ Rg.Own w' b9 (itC b D Dn Dc) 24 ∧ Below w.heap.size w w') (by kernel_rfl) (⟨HOa5.out.drew, HOb5.out.drew, HW5.out.drew⟩) (fun hHeld => ?_)
    refine wpAnyH_ready (rs := [0]) (by kernel_rfl) (by simp) ?_
    refine Rg.readyL (i := 0) rfl (fun K hK => ?_)
    go_simp
    go_at_call 5
    (with_reducible refine (HAw.out _).mono ?_)
    rintro e wx0 ⟨rfl, hbx⟩
    refine hK.out _ _ ?_ (fun hHeld => ?_)
    · exact ⟨hHeld.1.below hbx, hHeld.2.1.below hbx, below_step' hHeld.2.2 hbx⟩
    clear hK K hbx
    try simp only [Act.put, List.setIfInBounds_toArray, List.set_cons_zero, List.set_cons_succ]
    refine Rg.takeL (i := 1) (v := ?_) rfl (by kernel_rfl) (by kernel_rfl) (by kernel_rfl) (fun _ _ _ h => h) (Or.inl ⟨by rfl, ?_⟩) (by assumption) ?_
    rotate_left
    · (intro wz hSw; (try dsimp only at hSw); go_simp <;> with_reducible rfl)
    try simp only [Act.put, List.setIfInBounds_toArray, List.set_cons_zero, List.set_cons_succ]
    refine Rg.takeL (i := 2) (v := ?_) rfl (by kernel_rfl) (by kernel_rfl) (by kernel_rfl) (fun _ _ _ h => h) (Or.inl ⟨by rfl, ?_⟩) (by assumption) ?_
    rotate_left
    · (intro wz hSw; (try dsimp only at hSw); go_simp <;> with_reducible rfl)
    try simp only [Act.put, List.setIfInBounds_toArray, List.set_cons_zero, List.set_cons_succ]
    refine Rg.takeL (i := 3) (v := ?_) rfl (by kernel_rfl) (by kernel_rfl) (by kernel_rfl) (fun _ _ _ h => h) (Or.inl ⟨by rfl, ?_⟩) (by assumption) ?_
    rotate_left
    · (intro wz hSw; (try dsimp only at hSw); go_simp <;> with_reducible rfl)
    try simp only [Act.put, List.setIfInBounds_toArray, List.set_cons_zero, List.set_cons_succ]
    refine Rg.takeL (i := 5) (v := ?_) rfl (by kernel_rfl) (by kernel_rfl) (by kernel_rfl) (fun _ _ _ h => h) (Or.inl ⟨by rfl, ?_⟩) (by assumption) ?_
    rotate_left
    · (intro wz hSw; (try dsimp only at hSw); go_simp <;> with_reducible rfl)
    try simp only [Act.put, List.setIfInBounds_toArray, List.set_cons_zero, List.set_cons_succ]
    refine Rg.takeL (i := 6) (v := ?_) rfl (by kernel_rfl) (by kernel_rfl) (by kernel_rfl) (fun _ _ _ h => h) (Or.inl ⟨by rfl, ?_⟩) (by assumption) ?_
    rotate_left
    · (intro wz hSw; (try dsimp only at hSw); go_simp <;> with_reducible rfl)
    try simp only [Act.put, List.setIfInBounds_toArray, List.set_cons_zero, List.set_cons_succ]
    refine wpAnyH_ready (rs := [4]) (by kernel_rfl) (by simp) ?_
    refine Rg.readyL (i := 4) rfl (fun K hK => ?_)
    go_simp
    go_at_call 8
    (with_reducible refine (HHd.out _).mono ?_)
    rintro e wx1 ⟨rfl, hbx⟩
    refine hK.out _ _ ?_ (fun hHeld => ?_)
    · exact ⟨hHeld.1.below hbx, hHeld.2.1.below hbx, below_step' hHeld.2.2 hbx⟩
    clear hK K hbx
    try simp only [Act.put, List.setIfInBounds_toArray, List.set_cons_zero, List.set_cons_succ]
    refine wpAnyH_ready (rs := [7]) (by kernel_rfl) (by simp) ?_
    refine Rg.readyL (i := 7) rfl (fun K hK => ?_)
    go_simp
    go_at_call 9
    (with_reducible refine (HRh.out _).mono ?_)
    rintro e wx2 ⟨rfl, hbx⟩
    refine hK.out _ _ ?_ (fun hHeld => ?_)
    · exact ⟨hHeld.1.below hbx, hHeld.2.1.below hbx, below_step' hHeld.2.2 hbx⟩
    clear hK K hbx
    try simp only [Act.put, List.setIfInBounds_toArray, List.set_cons_zero, List.set_cons_succ]
    refine Rg.takeL (i := 8) (v := ?_) rfl (by kernel_rfl) (by kernel_rfl) (by kernel_rfl) (fun _ _ _ h => h) (Or.inl ⟨by rfl, ?_⟩) (by assumption) ?_
    rotate_left
    · (intro wz hSw; (try dsimp only at hSw); go_simp <;> with_reducible rfl)
    try simp only [Act.put, List.setIfInBounds_toArray, List.set_cons_zero, List.set_cons_succ]
    refine Rg.takeL (i := 9) (v := ?_) rfl (by kernel_rfl) (by kernel_rfl) (by kernel_rfl) (fun _ _ _ h => h) (Or.inl ⟨by rfl, ?_⟩) (by assumption) ?_
    rotate_left
    · (intro wz hSw; (try dsimp only at hSw); go_simp <;> with_reducible rfl)
    try simp only [Act.put, List.setIfInBounds_toArray, List.set_cons_zero, List.set_cons_succ]
    refine Rg.takeL (i := 10) (v := ?_) rfl (by kernel_rfl) (by kernel_rfl) (by kernel_rfl) (fun _ _ _ h => h) (Or.inl ⟨by rfl, ?_⟩) (by assumption) ?_
    rotate_left
    · (intro wz hSw; (try dsimp only at hSw); go_simp <;> with_reducible rfl)
    try simp only [Act.put, List.setIfInBounds_toArray, List.set_cons_zero, List.set_cons_succ]
    refine Rg.takeL (i := 11) (v := ?_) rfl (by kernel_rfl) (by kernel_rfl) (by kernel_rfl) (fun _ _ _ h => h) (Or.inl ⟨by rfl, ?_⟩) (by assumption) ?_
    rotate_left
    · (intro wz hSw; obtain ⟨z0, z1, z2⟩ := lies_row hSw.1.2; go_simp <;> with_reducible rfl)
    try simp only [Act.put, List.setIfInBounds_toArray, List.set_cons_zero, List.set_cons_succ]
    refine Rg.takeL (i := 12) (v := ?_) rfl (by kernel_rfl) (by kernel_rfl) (by kernel_rfl) (fun _ _ _ h => h) (Or.inl ⟨by rfl, ?_⟩) (by assumption) ?_
    rotate_left
    · (intro wz hSw; obtain ⟨z0, z1, z2⟩ := lies_row hSw.2.1.2; go_simp <;> with_reducible rfl)
    try simp only [Act.put, List.setIfInBounds_toArray, List.set_cons_zero, List.set_cons_succ]
    refine Rg.takeL (i := 14) (v := ?_) rfl (by kernel_rfl) (by kernel_rfl) (by kernel_rfl) (fun _ _ _ h => h) (Or.inl ⟨by rfl, ?_⟩) (by assumption) ?_
    rotate_left
    · (intro wz hSw; obtain ⟨z0, z1, z2⟩ := lies_row hSw.1.2; go_simp <;> with_reducible rfl)
    try simp only [Act.put, List.setIfInBounds_toArray, List.set_cons_zero, List.set_cons_succ]
    refine Rg.takeL (i := 15) (v := ?_) rfl (by kernel_rfl) (by kernel_rfl) (by kernel_rfl) (fun _ _ _ h => h) (Or.inl ⟨by rfl, ?_⟩) (by assumption) ?_
    rotate_left
    · (intro wz hSw; obtain ⟨z0, z1, z2⟩ := lies_row hSw.2.1.2; go_simp <;> with_reducible rfl)
    try simp only [Act.put, List.setIfInBounds_toArray, List.set_cons_zero, List.set_cons_succ]
    refine wpAnyH_ready (rs := [13]) (by kernel_rfl) (by simp) ?_
    refine Rg.readyL (i := 13) rfl (fun K hK => ?_)
    go_simp
    go_at_call 10
    (with_reducible refine (HSm.out _ hHeld.2.2).mono ?_)
    rintro e wx3 ⟨rfl, hbx⟩
    refine hK.out _ _ ?_ (fun hHeld => ?_)
    · exact ⟨hHeld.1.below hbx, hHeld.2.1.below hbx, below_step' hHeld.2.2 hbx⟩
    clear hK K hbx
    try simp only [Act.put, List.setIfInBounds_toArray, List.set_cons_zero, List.set_cons_succ]
    refine wpAnyH_ready (rs := [16]) (by kernel_rfl) (by simp) ?_
    refine Rg.readyL (i := 16) rfl (fun K hK => ?_)
    go_simp
    go_at_call 11
    (with_reducible refine (HRs.out _ hHeld.2.2).mono ?_)
    rintro e wx4 ⟨rfl, hbx⟩
    refine hK.out _ _ ?_ (fun hHeld => ?_)
    · exact ⟨hHeld.1.below hbx, hHeld.2.1.below hbx, below_step' hHeld.2.2 hbx⟩
    clear hK K hbx
    try simp only [Act.put, List.setIfInBounds_toArray, List.set_cons_zero, List.set_cons_succ]
    refine Rg.takeL (i := 17) (v := ?_) rfl (by kernel_rfl) (by kernel_rfl) (by kernel_rfl) (fun _ _ _ h => h) (Or.inl ⟨by rfl, ?_⟩) (by assumption) ?_
    rotate_left
    · (intro wz hSw; (try dsimp only at hSw); go_simp <;> with_reducible rfl)
    try simp only [Act.put, List.setIfInBounds_toArray, List.set_cons_zero, List.set_cons_succ]
    refine Rg.takeL (i := 18) (v := ?_) rfl (by kernel_rfl) (by kernel_rfl) (by kernel_rfl) (fun _ _ _ h => h) (Or.inl ⟨by rfl, ?_⟩) (by assumption) ?_
    rotate_left
    · (intro wz hSw; (try dsimp only at hSw); go_simp <;> with_reducible rfl)
    try simp only [Act.put, List.setIfInBounds_toArray, List.set_cons_zero, List.set_cons_succ]
    refine Rg.takeL (i := 19) (v := ?_) rfl (by kernel_rfl) (by kernel_rfl) (by kernel_rfl) (fun _ _ _ h => h) (Or.inl ⟨by rfl, ?_⟩) (by assumption) ?_
    rotate_left
    · (intro wz hSw; (try dsimp only at hSw); go_simp <;> with_reducible rfl)
    try simp only [Act.put, List.setIfInBounds_toArray, List.set_cons_zero, List.set_cons_succ]
    refine Rg.takeL (i := 21) (v := ?_) rfl (by kernel_rfl) (by kernel_rfl) (by kernel_rfl) (fun _ _ _ h => h) (Or.inl ⟨by rfl, ?_⟩) (by assumption) ?_
    rotate_left
    · (intro wz hSw; (try dsimp only at hSw); go_simp <;> with_reducible rfl)
    try simp only [Act.put, List.setIfInBounds_toArray, List.set_cons_zero, List.set_cons_succ]
    refine wpAnyH_ready (rs := [20]) (by kernel_rfl) (by simp) ?_
    refine Rg.readyL (i := 20) rfl (fun K hK => ?_)
    go_simp
    go_at_call 12
    (with_reducible refine (HTx.out _).mono ?_)
    rintro e wx5 ⟨rfl, hbx⟩
    refine hK.out _ _ ?_ (fun hHeld => ?_)
    · exact ⟨hHeld.1.below hbx, hHeld.2.1.below hbx, below_step' hHeld.2.2 hbx⟩
    clear hK K hbx
    try simp only [Act.put, List.setIfInBounds_toArray, List.set_cons_zero, List.set_cons_succ]
    refine wpAnyH_ready (rs := [22]) (by kernel_rfl) (by simp) ?_
    refine Rg.readyL (i := 22) rfl (fun K hK => ?_)
    go_simp
    go_at_call 10
    (with_reducible refine (HXx.out _).mono ?_)
    rintro e wx6 ⟨rfl, hbx⟩
    refine hK.out _ _ ?_ (fun hHeld => ?_)
    · exact ⟨hHeld.1.below hbx, hHeld.2.1.below hbx, below_step' hHeld.2.2 hbx⟩
    clear hK K hbx
    try simp only [Act.put, List.setIfInBounds_toArray, List.set_cons_zero, List.set_cons_succ]
    refine Rg.takeL (i := 23) (v := ?_) rfl (by kernel_rfl) (by kernel_rfl) (by kernel_rfl) (fun _ _ _ h => h) (Or.inl ⟨by rfl, ?_⟩) (by assumption) ?_
    rotate_left
    · (intro wz hSw; (try dsimp only at hSw); go_simp <;> with_reducible rfl)
    try simp only [Act.put, List.setIfInBounds_toArray, List.set_cons_zero, List.set_cons_succ]
    refine Rg.takeL (i := 24) (v := ?_) rfl (by kernel_rfl) (by kernel_rfl) (by kernel_rfl) (fun _ _ _ h => h) (Or.inl ⟨by rfl, ?_⟩) (by assumption) ?_
    rotate_left
    · (intro wz hSw; (try dsimp only at hSw); go_simp <;> with_reducible rfl)
    try simp only [Act.put, List.setIfInBounds_toArray, List.set_cons_zero, List.set_cons_succ]
    refine Rg.takeL (i := 25) (v := ?_) rfl (by kernel_rfl) (by kernel_rfl) (by kernel_rfl) (fun _ _ _ h => h) (Or.inl ⟨by rfl, ?_⟩) (by assumption) ?_
    rotate_left
    · (intro wz hSw; obtain ⟨z0, z1, z2⟩ := lies_row hSw.1.2; go_simp <;> with_reducible rfl)
    try simp only [Act.put, List.setIfInBounds_toArray, List.set_cons_zero, List.set_cons_succ]
    refine Rg.takeL (i := 26) (v := ?_) rfl (by kernel_rfl) (by kernel_rfl) (by kernel_rfl) (fun _ _ _ h => h) (Or.inl ⟨by rfl, ?_⟩) (by assumption) ?_
    rotate_left
    · (intro wz hSw; obtain ⟨z0, z1, z2⟩ := lies_row hSw.2.1.2; go_simp <;> with_reducible rfl)
    try simp only [Act.put, List.setIfInBounds_toArray, List.set_cons_zero, List.set_cons_succ]
    refine Rg.takeL (i := 29) (v := ?_) rfl (by kernel_rfl) (by kernel_rfl) (by kernel_rfl) (fun _ _ _ h => h) (Or.inl ⟨by rfl, ?_⟩) (by assumption) ?_
    rotate_left
    · (intro wz hSw; obtain ⟨z0, z1, z2⟩ := lies_row hSw.1.2; go_simp <;> with_reducible rfl)
    try simp only [Act.put, List.setIfInBounds_toArray, List.set_cons_zero, List.set_cons_succ]
    refine Rg.takeL (i := 30) (v := ?_) rfl (by kernel_rfl) (by kernel_rfl) (by kernel_rfl) (fun _ _ _ h => h) (Or.inl ⟨by rfl, ?_⟩) (by assumption) ?_
    rotate_left
    · (intro wz hSw; obtain ⟨z0, z1, z2⟩ := lies_row hSw.2.1.2; go_simp <;> with_reducible rfl)
    try simp only [Act.put, List.setIfInBounds_toArray, List.set_cons_zero, List.set_cons_succ]
    refine wpAnyH_ready (rs := [27, 31]) (by kernel_rfl) (by simp) ?_
    refine Rg.readyC (i := 27) rfl (fun K hK => ?_) (Rg.readyL (i := 31) rfl (fun K hK => ?_))
    · refine meetPair (x := a) (y := b) (by rfl) ⟨_, _, rfl, rfl, rfl⟩ ?_
      rintro wx7 g27 h27 hbx
      refine hK.out _ _ ?_ (fun hHeld => ?_)
      · exact ⟨hHeld.1.below hbx, hHeld.2.1.below hbx, below_step' hHeld.2.2 hbx⟩
      clear hK K hbx
      try simp only [Act.put, List.setIfInBounds_toArray, List.set_cons_zero, List.set_cons_succ]
      refine wpAnyH_ready (rs := [28, 31]) (by kernel_rfl) (by simp) ?_
      refine Rg.readyC (i := 28) rfl (fun K hK => ?_) (Rg.readyL (i := 31) rfl (fun K hK => ?_))
      · have HLs := Lib.hid (list_any [a, b] _ _ _ _ (two_its h27 (HA.out.stays hHeld.2.2) (HB.out.stays hHeld.2.2)))
        go_simp
        go_at_call 13
        (with_reducible refine (HLs.out).mono ?_)
        rintro e wx8 ⟨la, ln, lc, rfl, hIl, hbx⟩
        replace hIl := ItsIn.weak (B' := 0) hIl (Nat.zero_le _)
        clear HLs
        replace h27 := h27.below hbx
        refine hK.out _ _ ?_ (fun hHeld => ?_)
        · exact ⟨hHeld.1.below hbx, hHeld.2.1.below hbx, below_step' hHeld.2.2 hbx⟩
        clear hK K hbx
        try simp only [Act.put, List.setIfInBounds_toArray, List.set_cons_zero, List.set_cons_succ]
        refine wpAnyH_ready (rs := [31]) (by kernel_rfl) (by simp) ?_
        refine Rg.readyL (i := 31) rfl (fun K hK => ?_)
        refine meetPair (x := a) (y := b) (by rfl) ⟨_, _, rfl, rfl, rfl⟩ ?_
        rintro wx9 g31 h31 hbx
        replace h27 := h27.below hbx
        replace hIl := ItsP.stays hIl hbx
        refine hK.out _ _ ?_ (fun hHeld => ?_)
        · exact ⟨hHeld.1.below hbx, hHeld.2.1.below hbx, below_step' hHeld.2.2 hbx⟩
        clear hK K hbx
        try simp only [Act.put, List.setIfInBounds_toArray, List.set_cons_zero, List.set_cons_succ]
        refine Rg.takeL (i := 32) (v := ?_) rfl (by kernel_rfl) (by kernel_rfl) (by kernel_rfl) (fun _ _ _ h => h) (Or.inl ⟨by rfl, ?_⟩) (by assumption) ?_
        rotate_left
        · (intro wz hSw; (try dsimp only at hSw); go_simp <;> with_reducible rfl)
        try simp only [Act.put, List.setIfInBounds_toArray, List.set_cons_zero, List.set_cons_succ]
        refine wpAnyH_ready (rs := [33]) (by kernel_rfl) (by simp) ?_
        refine Rg.readyL (i := 33) rfl (fun K hK => ?_)
        have HLt := Lib.hid (same_same (.mk true ⟨#[]⟩ [a, b]) _ (itV (.mk true ⟨#[]⟩ [a, b]) la ln lc) (.agg #[.bool true, .string ⟨#[]⟩, .slice (some ⟨g31, 0, none⟩) 2 2]) ⟨la, ln, lc, rfl, hIl⟩ ⟨some ⟨g31, 0, none⟩, 2, 2, rfl, two_its h31 (HA.out.stays hHeld.2.2) (HB.out.stays hHeld.2.2)⟩)
        go_simp
        go_at_call 10
        (with_reducible refine (HLt.out).mono ?_)
        rintro e wx10 ⟨rfl, hbx⟩
        replace h27 := h27.below hbx
        replace h31 := h31.below hbx
        replace hIl := ItsP.stays hIl hbx
        refine hK.out _ _ ?_ (fun hHeld => ?_)
        · exact ⟨hHeld.1.below hbx, hHeld.2.1.below hbx, below_step' hHeld.2.2 hbx⟩
        clear hK K hbx
        try simp only [Act.put, List.setIfInBounds_toArray, List.set_cons_zero, List.set_cons_succ]
        refine Rg.takeL (i := 34) (v := ?_) rfl (by kernel_rfl) (by kernel_rfl) (by kernel_rfl) (fun _ _ _ h => h) (Or.inl ⟨by rfl, ?_⟩) (by assumption) ?_
        rotate_left
        · (intro wz hSw; (try dsimp only at hSw); go_simp <;> with_reducible rfl)
        try simp only [Act.put, List.setIfInBounds_toArray, List.set_cons_zero, List.set_cons_succ]
        refine Rg.takeL (i := 35) (v := ?_) rfl (by kernel_rfl) (by kernel_rfl) (by kernel_rfl) (fun _ _ _ h => h) (Or.inl ⟨by rfl, ?_⟩) (by assumption) ?_
        rotate_left
        · (intro wz hSw; (try dsimp only at hSw); go_simp <;> with_reducible rfl)
        try simp only [Act.put, List.setIfInBounds_toArray, List.set_cons_zero, List.set_cons_succ]
        refine wpAnyH_done (by kernel_rfl) ?_ _
        refine NoPanic.normal ?_
        clear hIl
        go_wp2
        go_ret
        exact ⟨rfl, hHeld.2.2⟩
      · refine meetPair (x := a) (y := b) (by rfl) ⟨_, _, rfl, rfl, rfl⟩ ?_
        rintro wx8 g31 h31 hbx
        replace h27 := h27.below hbx
        refine hK.out _ _ ?_ (fun hHeld => ?_)
        · exact ⟨hHeld.1.below hbx, hHeld.2.1.below hbx, below_step' hHeld.2.2 hbx⟩
        clear hK K hbx
        try simp only [Act.put, List.setIfInBounds_toArray, List.set_cons_zero, List.set_cons_succ]
        refine Rg.takeL (i := 32) (v := ?_) rfl (by kernel_rfl) (by kernel_rfl) (by kernel_rfl) (fun _ _ _ h => h) (Or.inl ⟨by rfl, ?_⟩) (by assumption) ?_
        rotate_left
        · (intro wz hSw; (try dsimp only at hSw); go_simp <;> with_reducible rfl)
        try simp only [Act.put, List.setIfInBounds_toArray, List.set_cons_zero, List.set_cons_succ]
        refine wpAnyH_ready (rs := [28]) (by kernel_rfl) (by simp) ?_
        refine Rg.readyL (i := 28) rfl (fun K hK => ?_)
        have HLs := Lib.hid (list_any [a, b] _ _ _ _ (two_its h27 (HA.out.stays hHeld.2.2) (HB.out.stays hHeld.2.2)))
        go_simp
        go_at_call 13
        (with_reducible refine (HLs.out).mono ?_)
        rintro e wx9 ⟨la, ln, lc, rfl, hIl, hbx⟩
        replace hIl := ItsIn.weak (B' := 0) hIl (Nat.zero_le _)
        clear HLs
        replace h27 := h27.below hbx
        replace h31 := h31.below hbx
        refine hK.out _ _ ?_ (fun hHeld => ?_)
        · exact ⟨hHeld.1.below hbx, hHeld.2.1.below hbx, below_step' hHeld.2.2 hbx⟩
        clear hK K hbx
        try simp only [Act.put, List.setIfInBounds_toArray, List.set_cons_zero, List.set_cons_succ]
        refine wpAnyH_ready (rs := [33]) (by kernel_rfl) (by simp) ?_
        refine Rg.readyL (i := 33) rfl (fun K hK => ?_)
        have HLt := Lib.hid (same_same (.mk true ⟨#[]⟩ [a, b]) _ (itV (.mk true ⟨#[]⟩ [a, b]) la ln lc) (.agg #[.bool true, .string ⟨#[]⟩, .slice (some ⟨g31, 0, none⟩) 2 2]) ⟨la, ln, lc, rfl, hIl⟩ ⟨some ⟨g31, 0, none⟩, 2, 2, rfl, two_its h31 (HA.out.stays hHeld.2.2) (HB.out.stays hHeld.2.2)⟩)
        go_simp
        go_at_call 10
        (with_reducible refine (HLt.out).mono ?_)
        rintro e wx10 ⟨rfl, hbx⟩
        replace h27 := h27.below hbx
        replace h31 := h31.below hbx
        replace hIl := ItsP.stays hIl hbx
        refine hK.out _ _ ?_ (fun hHeld => ?_)
        · exact ⟨hHeld.1.below hbx, hHeld.2.1.below hbx, below_step' hHeld.2.2 hbx⟩
        clear hK K hbx
        try simp only [Act.put, List.setIfInBounds_toArray, List.set_cons_zero, List.set_cons_succ]
        refine Rg.takeL (i := 34) (v := ?_) rfl (by kernel_rfl) (by kernel_rfl) (by kernel_rfl) (fun _ _ _ h => h) (Or.inl ⟨by rfl, ?_⟩) (by assumption) ?_
        rotate_left
        · (intro wz hSw; (try dsimp only at hSw); go_simp <;> with_reducible rfl)
        try simp only [Act.put, List.setIfInBounds_toArray, List.set_cons_zero, List.set_cons_succ]
        refine Rg.takeL (i := 35) (v := ?_) rfl (by kernel_rfl) (by kernel_rfl) (by kernel_rfl) (fun _ _ _ h => h) (Or.inl ⟨by rfl, ?_⟩) (by assumption) ?_
        rotate_left
        · (intro wz hSw; (try dsimp only at hSw); go_simp <;> with_reducible rfl)
        try simp only [Act.put, List.setIfInBounds_toArray, List.set_cons_zero, List.set_cons_succ]
        refine wpAnyH_done (by kernel_rfl) ?_ _
        refine NoPanic.normal ?_
        clear hIl
        go_wp2
        go_ret
        exact ⟨rfl, hHeld.2.2⟩
    · refine meetPair (x := a) (y := b) (by rfl) ⟨_, _, rfl, rfl, rfl⟩ ?_
      rintro wx7 g31 h31 hbx
      refine hK.out _ _ ?_ (fun hHeld => ?_)
      · exact ⟨hHeld.1.below hbx, hHeld.2.1.below hbx, below_step' hHeld.2.2 hbx⟩
      clear hK K hbx
      try simp only [Act.put, List.setIfInBounds_toArray, List.set_cons_zero, List.set_cons_succ]
      refine Rg.takeL (i := 32) (v := ?_) rfl (by kernel_rfl) (by kernel_rfl) (by kernel_rfl) (fun _ _ _ h => h) (Or.inl ⟨by rfl, ?_⟩) (by assumption) ?_
      rotate_left
      · (intro wz hSw; (try dsimp only at hSw); go_simp <;> with_reducible rfl)
      try simp only [Act.put, List.setIfInBounds_toArray, List.set_cons_zero, List.set_cons_succ]
      refine wpAnyH_ready (rs := [27]) (by kernel_rfl) (by simp) ?_
      refine Rg.readyL (i := 27) rfl (fun K hK => ?_)
      refine meetPair (x := a) (y := b) (by rfl) ⟨_, _, rfl, rfl, rfl⟩ ?_
      rintro wx8 g27 h27 hbx
      replace h31 := h31.below hbx
      refine hK.out _ _ ?_ (fun hHeld => ?_)
      · exact ⟨hHeld.1.below hbx, hHeld.2.1.below hbx, below_step' hHeld.2.2 hbx⟩
      clear hK K hbx
      try simp only [Act.put, List.setIfInBounds_toArray, List.set_cons_zero, List.set_cons_succ]
      refine wpAnyH_ready (rs := [28]) (by kernel_rfl) (by simp) ?_
      refine Rg.readyL (i := 28) rfl (fun K hK => ?_)
      have HLs := Lib.hid (list_any [a, b] _ _ _ _ (two_its h27 (HA.out.stays hHeld.2.2) (HB.out.stays hHeld.2.2)))
      go_simp
      go_at_call 13
      (with_reducible refine (HLs.out).mono ?_)
      rintro e wx9 ⟨la, ln, lc, rfl, hIl, hbx⟩
      replace hIl := ItsIn.weak (B' := 0) hIl (Nat.zero_le _)
      clear HLs
      replace h31 := h31.below hbx
      replace h27 := h27.below hbx
      refine hK.out _ _ ?_ (fun hHeld => ?_)
      · exact ⟨hHeld.1.below hbx, hHeld.2.1.below hbx, below_step' hHeld.2.2 hbx⟩
      clear hK K hbx
      try simp only [Act.put, List.setIfInBounds_toArray, List.set_cons_zero, List.set_cons_succ]
      refine wpAnyH_ready (rs := [33]) (by kernel_rfl) (by simp) ?_
      refine Rg.readyL (i := 33) rfl (fun K hK => ?_)
      have HLt := Lib.hid (same_same (.mk true ⟨#[]⟩ [a, b]) _ (itV (.mk true ⟨#[]⟩ [a, b]) la ln lc) (.agg #[.bool true, .string ⟨#[]⟩, .slice (some ⟨g31, 0, none⟩) 2 2]) ⟨la, ln, lc, rfl, hIl⟩ ⟨some ⟨g31, 0, none⟩, 2, 2, rfl, two_its h31 (HA.out.stays hHeld.2.2) (HB.out.stays hHeld.2.2)⟩)
      go_simp
      go_at_call 10
      (with_reducible refine (HLt.out).mono ?_)
      rintro e wx10 ⟨rfl, hbx⟩
      replace h31 := h31.below hbx
      replace h27 := h27.below hbx
      replace hIl := ItsP.stays hIl hbx
      refine hK.out _ _ ?_ (fun hHeld => ?_)
      · exact ⟨hHeld.1.below hbx, hHeld.2.1.below hbx, below_step' hHeld.2.2 hbx⟩
      clear hK K hbx
      try simp only [Act.put, List.setIfInBounds_toArray, List.set_cons_zero, List.set_cons_succ]
      refine Rg.takeL (i := 34) (v := ?_) rfl (by kernel_rfl) (by kernel_rfl) (by kernel_rfl) (fun _ _ _ h => h) (Or.inl ⟨by rfl, ?_⟩) (by assumption) ?_
      rotate_left
      · (intro wz hSw; (try dsimp only at hSw); go_simp <;> with_reducible rfl)
      try simp only [Act.put, List.setIfInBounds_toArray, List.set_cons_zero, List.set_cons_succ]
      refine Rg.takeL (i := 35) (v := ?_) rfl (by kernel_rfl) (by kernel_rfl) (by kernel_rfl) (fun _ _ _ h => h) (Or.inl ⟨by rfl, ?_⟩) (by assumption) ?_
      rotate_left
      · (intro wz hSw; (try dsimp only at hSw); go_simp <;> with_reducible rfl)
      try simp only [Act.put, List.setIfInBounds_toArray, List.set_cons_zero, List.set_cons_succ]
      refine wpAnyH_done (by kernel_rfl) ?_ _
      refine NoPanic.normal ?_
      clear hIl
      go_wp2
      go_ret
      exact ⟨rfl, hHeld.2.2⟩
    go_wp2_with (go_at_call 5; with_reducible refine (HAw.out _).mono ?_; rintro e wa ⟨rfl, hba⟩)
    have HWa := Lib.hid (below_step' HWx.out hba)
    clear hba
    go_wp2
    go_ret
    exact ⟨rfl, HWa.out⟩
    go_wp2_with (go_at_call 5; with_reducible refine (HAw.out _).mono ?_; rintro e wa ⟨rfl, hba⟩)
    have HWa := Lib.hid (below_step' HWx.out hba)
    clear hba
    go_wp2
    go_ret
    exact ⟨rfl, HWa.out⟩
  · refine Rg.meetAlloc (by rfl) (run_alloc_it _ _ rfl _) ?_
    rintro wv0 b9 he9 h9 hbx
    have ge9 : wb.heap.size ≤ b9 := by rw [he9]; exact Below.size hHeld
    clear he9
    refine hK.out _ _ ?_ (fun hHeld => ?_)
    · exact Below.trans hHeld (hbx.mono hHeld.size)
    clear hK K hbx
    try simp only [Act.put, List.setIfInBounds_toArray, List.set_cons_zero, List.set_cons_succ]
    refine wpAnyH_ready (rs := [8]) (by kernel_rfl) (by simp) ?_
    refine Rg.readyL (i := 8) rfl (fun K hK => ?_)
    refine Rg.meetAlloc (by rfl) (run_alloc_it _ _ rfl _) ?_
    rintro wv1 b8 he8 h8 hbx
    have ge8 : wb.heap.size ≤ b8 := by rw [he8]; exact Below.size hHeld
    have ne8_9 : b8 ≠ b9 := by have := h9.1; omega
    replace h9 := h9.below hbx
    clear he8
    refine hK.out _ _ ?_ (fun hHeld => ?_)
    · exact Below.trans hHeld (hbx.mono hHeld.size)
    clear hK K hbx
    try simp only [Act.put, List.setIfInBounds_toArray, List.set_cons_zero, List.set_cons_succ]
    refine Rg.takeL (i := 10) (v := ?_) rfl (by kernel_rfl) (by kernel_rfl) (by kernel_rfl) (fun _ _ _ h => h) (Or.inl ⟨by rfl, ?_⟩) (by assumption) ?_
    rotate_left
    · (intro wz hSw; (try dsimp only at hSw); go_simp <;> with_reducible rfl)
    try simp only [Act.put, List.setIfInBounds_toArray, List.set_cons_zero, List.set_cons_succ]
    refine Rg.takeL (i := 11) (v := ?_) rfl (by kernel_rfl) (by kernel_rfl) (by kernel_rfl) (fun _ _ _ h => h) (Or.inl ⟨by rfl, ?_⟩) (by assumption) ?_
    rotate_left
    · (intro wz hSw; (try dsimp only at hSw); go_simp <;> with_reducible rfl)
    try simp only [Act.put, List.setIfInBounds_toArray, List.set_cons_zero, List.set_cons_succ]
    refine wpAnyH_ready (rs := [12]) (by kernel_rfl) (by simp) ?_
    refine Rg.readyL (i := 12) rfl (fun K hK => ?_)
    refine Rg.meetStore (by rfl) h8 24 (itC a A An Ac) ⟨_, _, rfl, rfl, rfl⟩ (info_itC _ _ _ _) (rfl) (itC_one _ _ _ _) ?_
    rintro wv2 hn hu
    replace h9 := h9.upd hu (Ne.symm ne8_9)
    refine hK.out _ _ ?_ (fun hHeld => ?_)
    · exact hu.below hHeld ge8
    replace h8 := hn
    clear hK K hn hu
    try simp only [Act.put]
    refine wpAnyH_ready (rs := [13]) (by kernel_rfl) (by simp) ?_
    refine Rg.readyL (i := 13) rfl (fun K hK => ?_)
    refine Rg.meetStore (by rfl) h9 24 (itC b D Dn Dc) ⟨_, _, rfl, rfl, rfl⟩ (info_itC _ _ _ _) (rfl) (itC_one _ _ _ _) ?_
    rintro wv3 hn hu
    replace h8 := h8.upd hu ne8_9
    refine hK.out _ _ ?_ (fun hHeld => ?_)
    · exact hu.below hHeld ge9
    replace h9 := hn
    clear hK K hn hu
    try simp only [Act.put]
    refine wpAnyH_done (by kernel_rfl) ?_ _
    refine NoPanic.normal ?_
    have HOa := Lib.hid h8
    have HOb := Lib.hid h9
    have HW := Lib.hid (show Below w.heap.size w wv3 from HWb.out.trans (hHeld.mono HWb.out.size))
    clear hHeld h8 h9 ge8 ge9
    try clear ne8_9
    obtain ⟨c0, c1, c2⟩ := lies_row HOa.out.2
    have HLa := Lib.hid (light_any a wv3 (itV a A An Ac) ⟨A, An, Ac, rfl, HA.out.stays HW.out⟩)
    unfold itV at HLa
    go_wp2_with fail
    with_reducible refine HLa.out.mono ?_
    rintro e w4 ⟨ba, rfl, hb4⟩
    have HOa4 := Lib.hid (HOa.out.below hb4)
    have HOb4 := Lib.hid (HOb.out.below hb4)
    have HWx := Lib.hid (below_step' HW.out hb4)
    clear hb4 c0 c1 c2 HLa HOa HOb HW
    cases ba
    rotate_left
    obtain ⟨c0, c1, c2⟩ := lies_row HOb4.out.2
    have HLb := Lib.hid (light_any b w4 (itV b D Dn Dc) ⟨D, Dn, Dc, rfl, HB.out.stays HWx.out⟩)
    unfold itV at HLb
    go_wp2_with fail
    with_reducible refine HLb.out.mono ?_
    rintro e w5 ⟨bb, rfl, hb5⟩
    have HOa5 := Lib.hid (HOa4.out.below hb5)
    have HOb5 := Lib.hid (HOb4.out.below hb5)
    replace HWx := Lib.hid (below_step' HWx.out hb5)
    clear hb5 c0 c1 c2 HLb HOa4 HOb4
    cases bb
    rotate_left
    have HW5 := HWx
    clear HWx
    go_wp2_with fail
    with_reducible refine (HLo.out _).mono ?_
    rintro e w6 ⟨rfl, rfl⟩
    go_wp2_with fail
    with_reducible refine (HHi.out _).mono ?_
    rintro e w7 ⟨rfl, rfl⟩
    go_wp2_with fail
    refine wp_region_noPanic ?_
    refine wp_region_held_drew (S := fun w' => Rg.Own w' b8 (itC a A An Ac) 24 ∧ Rg.Own w' b9 (itC b D Dn Dc) 24 ∧ Below w.heap.size w w') (by kernel_rfl) (⟨HOa5.out.drew, HOb5.out.drew, HW5.out.drew⟩) (fun hHeld => ?_)
    refine wpAnyH_ready (rs := [0]) (by kernel_rfl) (by simp) ?_
    refine Rg.readyL (i := 0) rfl (fun K hK => ?_)
    go_simp
    go_at_call 5
    (with_reducible refine (HAw.out _).mono ?_)
    rintro e wx0 ⟨rfl, hbx⟩
    refine hK.out _ _ ?_ (fun hHeld => ?_)
    · exact ⟨hHeld.1.below hbx, hHeld.2.1.below hbx, below_step' hHeld.2.2 hbx⟩
    clear hK K hbx
    try simp only [Act.put, List.setIfInBounds_toArray, List.set_cons_zero, List.set_cons_succ]
    refine Rg.takeL (i := 1) (v := ?_) rfl (by kernel_rfl) (by kernel_rfl) (by kernel_rfl) (fun _ _ _ h => h) (Or.inl ⟨by rfl, ?_⟩) (by assumption) ?_
    rotate_left
    · (intro wz hSw; (try dsimp only at hSw); go_simp <;> with_reducible rfl)
    try simp only [Act.put, List.setIfInBounds_toArray, List.set_cons_zero, List.set_cons_succ]
    refine Rg.takeL (i := 2) (v := ?_) rfl (by kernel_rfl) (by kernel_rfl) (by kernel_rfl) (fun _ _ _ h => h) (Or.inl ⟨by rfl, ?_⟩) (by assumption) ?_
    rotate_left
    · (intro wz hSw; (try dsimp only at hSw); go_simp <;> with_reducible rfl)
    try simp only [Act.put, List.setIfInBounds_toArray, List.set_cons_zero, List.set_cons_succ]
    refine Rg.takeL (i := 3) (v := ?_) rfl (by kernel_rfl) (by kernel_rfl) (by kernel_rfl) (fun _ _ _ h => h) (Or.inl ⟨by rfl, ?_⟩) (by assumption) ?_
    rotate_left
    · (intro wz hSw; (try dsimp only at hSw); go_simp <;> with_reducible rfl)
    try simp only [Act.put, List.setIfInBounds_toArray, List.set_cons_zero, List.set_cons_succ]
    refine Rg.takeL (i := 5) (v := ?_) rfl (by kernel_rfl) (by kernel_rfl) (by kernel_rfl) (fun _ _ _ h => h) (Or.inl ⟨by rfl, ?_⟩) (by assumption) ?_
    rotate_left
    · (intro wz hSw; (try dsimp only at hSw); go_simp <;> with_reducible rfl)
    try simp only [Act.put, List.setIfInBounds_toArray, List.set_cons_zero, List.set_cons_succ]
    refine Rg.takeL (i := 6) (v := ?_) rfl (by kernel_rfl) (by kernel_rfl) (by kernel_rfl) (fun _ _ _ h => h) (Or.inl ⟨by rfl, ?_⟩) (by assumption) ?_
    rotate_left
    · (intro wz hSw; (try dsimp only at hSw); go_simp <;> with_reducible rfl)
    try simp only [Act.put, List.setIfInBounds_toArray, List.set_cons_zero, List.set_cons_succ]
    refine wpAnyH_ready (rs := [4]) (by kernel_rfl) (by simp) ?_
    refine Rg.readyL (i := 4) rfl (fun K hK => ?_)
    go_simp
    go_at_call 8
    (with_reducible refine (HHd.out _).mono ?_)
    rintro e wx1 ⟨rfl, hbx⟩
    refine hK.out _ _ ?_ (fun hHeld => ?_)
    · exact ⟨hHeld.1.below hbx, hHeld.2.1.below hbx, below_step' hHeld.2.2 hbx⟩
    clear hK K hbx
    try simp only [Act.put, List.setIfInBounds_toArray, List.set_cons_zero, List.set_cons_succ]
    refine wpAnyH_ready (rs := [7]) (by kernel_rfl) (by simp) ?_
    refine Rg.readyL (i := 7) rfl (fun K hK => ?_)
    go_simp
    go_at_call 9
    (with_reducible refine (HRh.out _).mono ?_)
    rintro e wx2 ⟨rfl, hbx⟩
    refine hK.out _ _ ?_ (fun hHeld => ?_)
    · exact ⟨hHeld.1.below hbx, hHeld.2.1.below hbx, below_step' hHeld.2.2 hbx⟩
    clear hK K hbx
    try simp only [Act.put, List.setIfInBounds_toArray, List.set_cons_zero, List.set_cons_succ]
    refine Rg.takeL (i := 8) (v := ?_) rfl (by kernel_rfl) (by kernel_rfl) (by kernel_rfl) (fun _ _ _ h => h) (Or.inl ⟨by rfl, ?_⟩) (by assumption) ?_
    rotate_left
    · (intro wz hSw; (try dsimp only at hSw); go_simp <;> with_reducible rfl)
    try simp only [Act.put, List.setIfInBounds_toArray, List.set_cons_zero, List.set_cons_succ]
    refine Rg.takeL (i := 9) (v := ?_) rfl (by kernel_rfl) (by kernel_rfl) (by kernel_rfl) (fun _ _ _ h => h) (Or.inl ⟨by rfl, ?_⟩) (by assumption) ?_
    rotate_left
    · (intro wz hSw; (try dsimp only at hSw); go_simp <;> with_reducible rfl)
    try simp only [Act.put, List.setIfInBounds_toArray, List.set_cons_zero, List.set_cons_succ]
    refine Rg.takeL (i := 10) (v := ?_) rfl (by kernel_rfl) (by kernel_rfl) (by kernel_rfl) (fun _ _ _ h => h) (Or.inl ⟨by rfl, ?_⟩) (by assumption) ?_
    rotate_left
    · (intro wz hSw; (try dsimp only at hSw); go_simp <;> with_reducible rfl)
    try simp only [Act.put, List.setIfInBounds_toArray, List.set_cons_zero, List.set_cons_succ]
    refine Rg.takeL (i := 11) (v := ?_) rfl (by kernel_rfl) (by kernel_rfl) (by kernel_rfl) (fun _ _ _ h => h) (Or.inl ⟨by rfl, ?_⟩) (by assumption) ?_
    rotate_left
    · (intro wz hSw; obtain ⟨z0, z1, z2⟩ := lies_row hSw.1.2; go_simp <;> with_reducible rfl)
    try simp only [Act.put, List.setIfInBounds_toArray, List.set_cons_zero, List.set_cons_succ]
    refine Rg.takeL (i := 12) (v := ?_) rfl (by kernel_rfl) (by kernel_rfl) (by kernel_rfl) (fun _ _ _ h => h) (Or.inl ⟨by rfl, ?_⟩) (by assumption) ?_
    rotate_left
    · (intro wz hSw; obtain ⟨z0, z1, z2⟩ := lies_row hSw.2.1.2; go_simp <;> with_reducible rfl)
    try simp only [Act.put, List.setIfInBounds_toArray, List.set_cons_zero, List.set_cons_succ]
    refine Rg.takeL (i := 14) (v := ?_) rfl (by kernel_rfl) (by kernel_rfl) (by kernel_rfl) (fun _ _ _ h => h) (Or.inl ⟨by rfl, ?_⟩) (by assumption) ?_
    rotate_left
    · (intro wz hSw; obtain ⟨z0, z1, z2⟩ := lies_row hSw.1.2; go_simp <;> with_reducible rfl)
    try simp only [Act.put, List.setIfInBounds_toArray, List.set_cons_zero, List.set_cons_succ]
    refine Rg.takeL (i := 15) (v := ?_) rfl (by kernel_rfl) (by kernel_rfl) (by kernel_rfl) (fun _ _ _ h => h) (Or.inl ⟨by rfl, ?_⟩) (by assumption) ?_
    rotate_left
    · (intro wz hSw; obtain ⟨z0, z1, z2⟩ := lies_row hSw.2.1.2; go_simp <;> with_reducible rfl)
    try simp only [Act.put, List.setIfInBounds_toArray, List.set_cons_zero, List.set_cons_succ]
    refine wpAnyH_ready (rs := [13]) (by kernel_rfl) (by simp) ?_
    refine Rg.readyL (i := 13) rfl (fun K hK => ?_)
    go_simp
    go_at_call 10
    (with_reducible refine (HSm.out _ hHeld.2.2).mono ?_)
    rintro e wx3 ⟨rfl, hbx⟩
    refine hK.out _ _ ?_ (fun hHeld => ?_)
    · exact ⟨hHeld.1.below hbx, hHeld.2.1.below hbx, below_step' hHeld.2.2 hbx⟩
    clear hK K hbx
    try simp only [Act.put, List.setIfInBounds_toArray, List.set_cons_zero, List.set_cons_succ]
    refine wpAnyH_ready (rs := [16]) (by kernel_rfl) (by simp) ?_
    refine Rg.readyL (i := 16) rfl (fun K hK => ?_)
    go_simp
    go_at_call 11
    (with_reducible refine (HRs.out _ hHeld.2.2).mono ?_)
    rintro e wx4 ⟨rfl, hbx⟩
    refine hK.out _ _ ?_ (fun hHeld => ?_)
    · exact ⟨hHeld.1.below hbx, hHeld.2.1.below hbx, below_step' hHeld.2.2 hbx⟩
    clear hK K hbx
    try simp only [Act.put, List.setIfInBounds_toArray, List.set_cons_zero, List.set_cons_succ]
    refine Rg.takeL (i := 17) (v := ?_) rfl (by kernel_rfl) (by kernel_rfl) (by kernel_rfl) (fun _ _ _ h => h) (Or.inl ⟨by rfl, ?_⟩) (by assumption) ?_
    rotate_left
    · (intro wz hSw; (try dsimp only at hSw); go_simp <;> with_reducible rfl)
    try simp only [Act.put, List.setIfInBounds_toArray, List.set_cons_zero, List.set_cons_succ]
    refine Rg.takeL (i := 18) (v := ?_) rfl (by kernel_rfl) (by kernel_rfl) (by kernel_rfl) (fun _ _ _ h => h) (Or.inl ⟨by rfl, ?_⟩) (by assumption) ?_
    rotate_left
    · (intro wz hSw; (try dsimp only at hSw); go_simp <;> with_reducible rfl)
    try simp only [Act.put, List.setIfInBounds_toArray, List.set_cons_zero, List.set_cons_succ]
    refine Rg.takeL (i := 19) (v := ?_) rfl (by kernel_rfl) (by kernel_rfl) (by kernel_rfl) (fun _ _ _ h => h) (Or.inl ⟨by rfl, ?_⟩) (by assumption) ?_
    rotate_left
    · (intro wz hSw; (try dsimp only at hSw); go_simp <;> with_reducible rfl)
    try simp only [Act.put, List.setIfInBounds_toArray, List.set_cons_zero, List.set_cons_succ]
    refine Rg.takeL (i := 21) (v := ?_) rfl (by kernel_rfl) (by kernel_rfl) (by kernel_rfl) (fun _ _ _ h => h) (Or.inl ⟨by rfl, ?_⟩) (by assumption) ?_
    rotate_left
    · (intro wz hSw; (try dsimp only at hSw); go_simp <;> with_reducible rfl)
    try simp only [Act.put, List.setIfInBounds_toArray, List.set_cons_zero, List.set_cons_succ]
    refine wpAnyH_ready (rs := [20]) (by kernel_rfl) (by simp) ?_
    refine Rg.readyL (i := 20) rfl (fun K hK => ?_)
    go_simp
    go_at_call 12
    (with_reducible refine (HTx.out _).mono ?_)
    rintro e wx5 ⟨rfl, hbx⟩
    refine hK.out _ _ ?_ (fun hHeld => ?_)
    · exact ⟨hHeld.1.below hbx, hHeld.2.1.below hbx, below_step' hHeld.2.2 hbx⟩
    clear hK K hbx
    try simp only [Act.put, List.setIfInBounds_toArray, List.set_cons_zero, List.set_cons_succ]
    refine wpAnyH_ready (rs := [22]) (by kernel_rfl) (by simp) ?_
    refine Rg.readyL (i := 22) rfl (fun K hK => ?_)
    go_simp
    go_at_call 10
    (with_reducible refine (HXx.out _).mono ?_)
    rintro e wx6 ⟨rfl, hbx⟩
    refine hK.out _ _ ?_ (fun hHeld => ?_)
    · exact ⟨hHeld.1.below hbx, hHeld.2.1.below hbx, below_step' hHeld.2.2 hbx⟩
    clear hK K hbx
    try simp only [Act.put, List.setIfInBounds_toArray, List.set_cons_zero, List.set_cons_succ]
    refine Rg.takeL (i := 23) (v := ?_) rfl (by kernel_rfl) (by kernel_rfl) (by kernel_rfl) (fun _ _ _ h => h) (Or.inl ⟨by rfl, ?_⟩) (by assumption) ?_
    rotate_left
    · (intro wz hSw; (try dsimp only at hSw); go_simp <;> with_reducible rfl)
    try simp only [Act.put, List.setIfInBounds_toArray, List.set_cons_zero, List.set_cons_succ]
    refine Rg.takeL (i := 24) (v := ?_) rfl (by kernel_rfl) (by kernel_rfl) (by kernel_rfl) (fun _ _ _ h => h) (Or.inl ⟨by rfl, ?_⟩) (by assumption) ?_
    rotate_left
    · (intro wz hSw; (try dsimp only at hSw); go_simp <;> with_reducible rfl)
    try simp only [Act.put, List.setIfInBounds_toArray, List.set_cons_zero, List.set_cons_succ]
    refine Rg.takeL (i := 25) (v := ?_) rfl (by kernel_rfl) (by kernel_rfl) (by kernel_rfl) (fun _ _ _ h => h) (Or.inl ⟨by rfl, ?_⟩) (by assumption) ?_
    rotate_left
    · (intro wz hSw; obtain ⟨z0, z1, z2⟩ := lies_row hSw.1.2; go_simp <;> with_reducible rfl)
    try simp only [Act.put, List.setIfInBounds_toArray, List.set_cons_zero, List.set_cons_succ]
    refine Rg.takeL (i := 26) (v := ?_) rfl (by kernel_rfl) (by kernel_rfl) (by kernel_rfl) (fun _ _ _ h => h) (Or.inl ⟨by rfl, ?_⟩) (by assumption) ?_
    rotate_left
    · (intro wz hSw; obtain ⟨z0, z1, z2⟩ := lies_row hSw.2.1.2; go_simp <;> with_reducible rfl)
    try simp only [Act.put, List.setIfInBounds_toArray, List.set_cons_zero, List.set_cons_succ]
    refine Rg.takeL (i := 29) (v := ?_) rfl (by kernel_rfl) (by kernel_rfl) (by kernel_rfl) (fun _ _ _ h => h) (Or.inl ⟨by rfl, ?_⟩) (by assumption) ?_
    rotate_left
    · (intro wz hSw; obtain ⟨z0, z1, z2⟩ := lies_row hSw.1.2; go_simp <;> with_reducible rfl)
    try simp only [Act.put, List.setIfInBounds_toArray, List.set_cons_zero, List.set_cons_succ]
    refine Rg.takeL (i := 30) (v := ?_) rfl (by kernel_rfl) (by kernel_rfl) (by kernel_rfl) (fun _ _ _ h => h) (Or.inl ⟨by rfl, ?_⟩) (by assumption) ?_
    rotate_left
    · (intro wz hSw; obtain ⟨z0, z1, z2⟩ := lies_row hSw.2.1.2; go_simp <;> with_reducible rfl)
    try simp only [Act.put, List.setIfInBounds_toArray, List.set_cons_zero, List.set_cons_succ]
    refine wpAnyH_ready (rs := [27, 31]) (by kernel_rfl) (by simp) ?_
    refine Rg.readyC (i := 27) rfl (fun K hK => ?_) (Rg.readyL (i := 31) rfl (fun K hK => ?_))
    · refine meetPair (x := a) (y := b) (by rfl) ⟨_, _, rfl, rfl, rfl⟩ ?_
      rintro wx7 g27 h27 hbx
      refine hK.out _ _ ?_ (fun hHeld => ?_)
      · exact ⟨hHeld.1.below hbx, hHeld.2.1.below hbx, below_step' hHeld.2.2 hbx⟩
      clear hK K hbx
      try simp only [Act.put, List.setIfInBounds_toArray, List.set_cons_zero, List.set_cons_succ]
      refine wpAnyH_ready (rs := [28, 31]) (by kernel_rfl) (by simp) ?_
      refine Rg.readyC (i := 28) rfl (fun K hK => ?_) (Rg.readyL (i := 31) rfl (fun K hK => ?_))
      · have HLs := Lib.hid (list_any [a, b] _ _ _ _ (two_its h27 (HA.out.stays hHeld.2.2) (HB.out.stays hHeld.2.2)))
        go_simp
        go_at_call 13
        (with_reducible refine (HLs.out).mono ?_)
        rintro e wx8 ⟨la, ln, lc, rfl, hIl, hbx⟩
        replace hIl := ItsIn.weak (B' := 0) hIl (Nat.zero_le _)
        clear HLs
        replace h27 := h27.below hbx
        refine hK.out _ _ ?_ (fun hHeld => ?_)
        · exact ⟨hHeld.1.below hbx, hHeld.2.1.below hbx, below_step' hHeld.2.2 hbx⟩
        clear hK K hbx
        try simp only [Act.put, List.setIfInBounds_toArray, List.set_cons_zero, List.set_cons_succ]
        refine wpAnyH_ready (rs := [31]) (by kernel_rfl) (by simp) ?_
        refine Rg.readyL (i := 31) rfl (fun K hK => ?_)
        refine meetPair (x := a) (y := b) (by rfl) ⟨_, _, rfl, rfl, rfl⟩ ?_
        rintro wx9 g31 h31 hbx
        replace h27 := h27.below hbx
        replace hIl := ItsP.stays hIl hbx
        refine hK.out _ _ ?_ (fun hHeld => ?_)
        · exact ⟨hHeld.1.below hbx, hHeld.2.1.below hbx, below_step' hHeld.2.2 hbx⟩
        clear hK K hbx
        try simp only [Act.put, List.setIfInBounds_toArray, List.set_cons_zero, List.set_cons_succ]
        refine Rg.takeL (i := 32) (v := ?_) rfl (by kernel_rfl) (by kernel_rfl) (by kernel_rfl) (fun _ _ _ h => h) (Or.inl ⟨by rfl, ?_⟩) (by assumption) ?_
        rotate_left
        · (intro wz hSw; (try dsimp only at hSw); go_simp <;> with_reducible rfl)
        try simp only [Act.put, List.setIfInBounds_toArray, List.set_cons_zero, List.set_cons_succ]
        refine wpAnyH_ready (rs := [33]) (by kernel_rfl) (by simp) ?_
        refine Rg.readyL (i := 33) rfl (fun K hK => ?_)
        have HLt := Lib.hid (same_same (.mk true ⟨#[]⟩ [a, b]) _ (itV (.mk true ⟨#[]⟩ [a, b]) la ln lc) (.agg #[.bool true, .string ⟨#[]⟩, .slice (some ⟨g31, 0, none⟩) 2 2]) ⟨la, ln, lc, rfl, hIl⟩ ⟨some ⟨g31, 0, none⟩, 2, 2, rfl, two_its h31 (HA.out.stays hHeld.2.2) (HB.out.stays hHeld.2.2)⟩)
        go_simp
        go_at_call 10
        (with_reducible refine (HLt.out).mono ?_)
        rintro e wx10 ⟨rfl, hbx⟩
        replace h27 := h27.below hbx
        replace h31 := h31.below hbx
        replace hIl := ItsP.stays hIl hbx
        refine hK.out _ _ ?_ (fun hHeld => ?_)
        · exact ⟨hHeld.1.below hbx, hHeld.2.1.below hbx, below_step' hHeld.2.2 hbx⟩
        clear hK K hbx
        try simp only [Act.put, List.setIfInBounds_toArray, List.set_cons_zero, List.set_cons_succ]
        refine Rg.takeL (i := 34) (v := ?_) rfl (by kernel_rfl) (by kernel_rfl) (by kernel_rfl) (fun _ _ _ h => h) (Or.inl ⟨by rfl, ?_⟩) (by assumption) ?_
        rotate_left
        · (intro wz hSw; (try dsimp only at hSw); go_simp <;> with_reducible rfl)
        try simp only [Act.put, List.setIfInBounds_toArray, List.set_cons_zero, List.set_cons_succ]
        refine Rg.takeL (i := 35) (v := ?_) rfl (by kernel_rfl) (by kernel_rfl) (by kernel_rfl) (fun _ _ _ h => h) (Or.inl ⟨by rfl, ?_⟩) (by assumption) ?_
        rotate_left
        · (intro wz hSw; (try dsimp only at hSw); go_simp <;> with_reducible rfl)
        try simp only [Act.put, List.setIfInBounds_toArray, List.set_cons_zero, List.set_cons_succ]
        refine wpAnyH_done (by kernel_rfl) ?_ _
        refine NoPanic.normal ?_
        clear hIl
        go_wp2
        go_ret
        exact ⟨rfl, hHeld.2.2⟩
      · refine meetPair (x := a) (y := b) (by rfl) ⟨_, _, rfl, rfl, rfl⟩ ?_
        rintro wx8 g31 h31 hbx
        replace h27 := h27.below hbx
        refine hK.out _ _ ?_ (fun hHeld => ?_)
        · exact ⟨hHeld.1.below hbx, hHeld.2.1.below hbx, below_step' hHeld.2.2 hbx⟩
        clear hK K hbx
        try simp only [Act.put, List.setIfInBounds_toArray, List.set_cons_zero, List.set_cons_succ]
        refine Rg.takeL (i := 32) (v := ?_) rfl (by kernel_rfl) (by kernel_rfl) (by kernel_rfl) (fun _ _ _ h => h) (Or.inl ⟨by rfl, ?_⟩) (by assumption) ?_
        rotate_left
        · (intro wz hSw; (try dsimp only at hSw); go_simp <;> with_reducible rfl)
        try simp only [Act.put, List.setIfInBounds_toArray, List.set_cons_zero, List.set_cons_succ]
        refine wpAnyH_ready (rs := [28]) (by kernel_rfl) (by simp) ?_
        refine Rg.readyL (i := 28) rfl (fun K hK => ?_)
        have HLs := Lib.hid (list_any [a, b] _ _ _ _ (two_its h27 (HA.out.stays hHeld.2.2) (HB.out.stays hHeld.2.2)))
        go_simp
        go_at_call 13
        (with_reducible refine (HLs.out).mono ?_)
        rintro e wx9 ⟨la, ln, lc, rfl, hIl, hbx⟩
        replace hIl := ItsIn.weak (B' := 0) hIl (Nat.zero_le _)
        clear HLs
        replace h27 := h27.below hbx
        replace h31 := h31.below hbx
        refine hK.out _ _ ?_ (fun hHeld => ?_)
        · exact ⟨hHeld.1.below hbx, hHeld.2.1.below hbx, below_step' hHeld.2.2 hbx⟩
        clear hK K hbx
        try simp only [Act.put, List.setIfInBounds_toArray, List.set_cons_zero, List.set_cons_succ]
        refine wpAnyH_ready (rs := [33]) (by kernel_rfl) (by simp) ?_
        refine Rg.readyL (i := 33) rfl (fun K hK => ?_)
        have HLt := Lib.hid (same_same (.mk true ⟨#[]⟩ [a, b]) _ (itV (.mk true ⟨#[]⟩ [a, b]) la ln lc) (.agg #[.bool true, .string ⟨#[]⟩, .slice (some ⟨g31, 0, none⟩) 2 2]) ⟨la, ln, lc, rfl, hIl⟩ ⟨some ⟨g31, 0, none⟩, 2, 2, rfl, two_its h31 (HA.out.stays hHeld.2.2) (HB.out.stays hHeld.2.2)⟩)
        go_simp
        go_at_call 10
        (with_reducible refine (HLt.out).mono ?_)
        rintro e wx10 ⟨rfl, hbx⟩
        replace h27 := h27.below hbx
        replace h31 := h31.below hbx
        replace hIl := ItsP.stays hIl hbx
        refine hK.out _ _ ?_ (fun hHeld => ?_)
        · exact ⟨hHeld.1.below hbx, hHeld.2.1.below hbx, below_step' hHeld.2.2 hbx⟩
        clear hK K hbx
        try simp only [Act.put, List.setIfInBounds_toArray, List.set_cons_zero, List.set_cons_succ]
        refine Rg.takeL (i := 34) (v := ?_) rfl (by kernel_rfl) (by kernel_rfl) (by kernel_rfl) (fun _ _ _ h => h) (Or.inl ⟨by rfl, ?_⟩) (by assumption) ?_
        rotate_left
        · (intro wz hSw; (try dsimp only at hSw); go_simp <;> with_reducible rfl)
        try simp only [Act.put, List.setIfInBounds_toArray, List.set_cons_zero, List.set_cons_succ]
        refine Rg.takeL (i := 35) (v := ?_) rfl (by kernel_rfl) (by kernel_rfl) (by kernel_rfl) (fun _ _ _ h => h) (Or.inl ⟨by rfl, ?_⟩) (by assumption) ?_
        rotate_left
        · (intro wz hSw; (try dsimp only at hSw); go_simp <;> with_reducible rfl)
        try simp only [Act.put, List.setIfInBounds_toArray, List.set_cons_zero, List.set_cons_succ]
        refine wpAnyH_done (by kernel_rfl) ?_ _
        refine NoPanic.normal ?_
        clear hIl
        go_wp2
        go_ret
        exact ⟨rfl, hHeld.2.2⟩
    · refine meetPair (x := a) (y := b) (by rfl) ⟨_, _, rfl, rfl, rfl⟩ ?_
      rintro wx7 g31 h31 hbx
      refine hK.out _ _ ?_ (fun hHeld => ?_)
      · exact ⟨hHeld.1.below hbx, hHeld.2.1.below hbx, below_step' hHeld.2.2 hbx⟩
      clear hK K hbx
      try simp only [Act.put, List.setIfInBounds_toArray, List.set_cons_zero, List.set_cons_succ]
      refine Rg.takeL (i := 32) (v := ?_) rfl (by kernel_rfl) (by kernel_rfl) (by kernel_rfl) (fun _ _ _ h => h) (Or.inl ⟨by rfl, ?_⟩) (by assumption) ?_
      rotate_left
      · (intro wz hSw; (try dsimp only at hSw); go_simp <;> with_reducible rfl)
      try simp only [Act.put, List.setIfInBounds_toArray, List.set_cons_zero, List.set_cons_succ]
      refine wpAnyH_ready (rs := [27]) (by kernel_rfl) (by simp) ?_
      refine Rg.readyL (i := 27) rfl (fun K hK => ?_)
      refine meetPair (x := a) (y := b) (by rfl) ⟨_, _, rfl, rfl, rfl⟩ ?_
      rintro wx8 g27 h27 hbx
      replace h31 := h31.below hbx
      refine hK.out _ _ ?_ (fun hHeld => ?_)
      · exact ⟨hHeld.1.below hbx, hHeld.2.1.below hbx, below_step' hHeld.2.2 hbx⟩
      clear hK K hbx
      try simp only [Act.put, List.setIfInBounds_toArray, List.set_cons_zero, List.set_cons_succ]
      refine wpAnyH_ready (rs := [28]) (by kernel_rfl) (by simp) ?_
      refine Rg.readyL (i := 28) rfl (fun K hK => ?_)
      have HLs := Lib.hid (list_any [a, b] _ _ _ _ (two_its h27 (HA.out.stays hHeld.2.2) (HB.out.stays hHeld.2.2)))
      go_simp
      go_at_call 13
      (with_reducible refine (HLs.out).mono ?_)
      rintro e wx9 ⟨la, ln, lc, rfl, hIl, hbx⟩
      replace hIl := ItsIn.weak (B' := 0) hIl (Nat.zero_le _)
      clear HLs
      replace h31 := h31.below hbx
      replace h27 := h27.below hbx
      refine hK.out _ _ ?_ (fun hHeld => ?_)
      · exact ⟨hHeld.1.below hbx, hHeld.2.1.below hbx, below_step' hHeld.2.2 hbx⟩
      clear hK K hbx
      try simp only [Act.put, List.setIfInBounds_toArray, List.set_cons_zero, List.set_cons_succ]
      refine wpAnyH_ready (rs := [33]) (by kernel_rfl) (by simp) ?_
      refine Rg.readyL (i := 33) rfl (fun K hK => ?_)
      have HLt := Lib.hid (same_same (.mk true ⟨#[]⟩ [a, b]) _ (itV (.mk true ⟨#[]⟩ [a, b]) la ln lc) (.agg #[.bool true, .string ⟨#[]⟩, .slice (some ⟨g31, 0, none⟩) 2 2]) ⟨la, ln, lc, rfl, hIl⟩ ⟨some ⟨g31, 0, none⟩, 2, 2, rfl, two_its h31 (HA.out.stays hHeld.2.2) (HB.out.stays hHeld.2.2)⟩)
      go_simp
      go_at_call 10
      (with_reducible refine (HLt.out).mono ?_)
      rintro e wx10 ⟨rfl, hbx⟩
      replace h31 := h31.below hbx
      replace h27 := h27.below hbx
      replace hIl := ItsP.stays hIl hbx
      refine hK.out _ _ ?_ (fun hHeld => ?_)
      · exact ⟨hHeld.1.below hbx, hHeld.2.1.below hbx, below_step' hHeld.2.2 hbx⟩
      clear hK K hbx
      try simp only [Act.put, List.setIfInBounds_toArray, List.set_cons_zero, List.set_cons_succ]
      refine Rg.takeL (i := 34) (v := ?_) rfl (by kernel_rfl) (by kernel_rfl) (by kernel_rfl) (fun _ _ _ h => h) (Or.inl ⟨by rfl, ?_⟩) (by assumption) ?_
      rotate_left
      · (intro wz hSw; (try dsimp only at hSw); go_simp <;> with_reducible rfl)
      try simp only [Act.put, List.setIfInBounds_toArray, List.set_cons_zero, List.set_cons_succ]
      refine Rg.takeL (i := 35) (v := ?_) rfl (by kernel_rfl) (by kernel_rfl) (by kernel_rfl) (fun _ _ _ h => h) (Or.inl ⟨by rfl, ?_⟩) (by assumption) ?_
      rotate_left
      · (intro wz hSw; (try dsimp only at hSw); go_simp <;> with_reducible rfl)
      try simp only [Act.put, List.setIfInBounds_toArray, List.set_cons_zero, List.set_cons_succ]
      refine wpAnyH_done (by kernel_rfl) ?_ _
      refine NoPanic.normal ?_
      clear hIl
      go_wp2
      go_ret
      exact ⟨rfl, hHeld.2.2⟩
    go_wp2_with (go_at_call 5; with_reducible refine (HAw.out _).mono ?_; rintro e wa ⟨rfl, hba⟩)
    have HWa := Lib.hid (below_step' HWx.out hba)
    clear hba
    go_wp2
    go_ret
    exact ⟨rfl, HWa.out⟩
    go_wp2_with (go_at_call 5; with_reducible refine (HAw.out _).mono ?_; rintro e wa ⟨rfl, hba⟩)
    have HWa := Lib.hid (below_step' HWx.out hba)
    clear hba
    go_wp2
    go_ret
    exact ⟨rfl, HWa.out⟩

theorem own : ownKnob Try.prog.godebug = none := by kernel_rfl
theorem laidOut : laidOutB Try.prog = true := by kernel_rfl
theorem cells_four : Try.prog.cellsOf 26 = 8 := by kernel_rfl
theorem cells_int : Try.prog.cellsOf 3 = 1 := by kernel_rfl
/-- the four that came in -/
theorem four_of {H : Type} {enc : TypeId × Value → H} {w : World} {base : Nat} {v : Value} {d : DataW H} {p : List MemPlace}
    (hv : Value.okWide Try.prog w .any base 26 v) (h : DataW.Trod enc Try.prog w 0 (fun _ => true) true 26 v d p) (hw : ∀ n ∈ d.weights Try.prog 26, n ≤ reachBytes) :
    ∃ (N : Int) (l : Bool) (a b : It) (A D : Option Addr) (An Ac Dn Dc : Nat), v = .agg #[.int .i64 N, .bool l, .bool a.l, .string a.s, .slice A An Ac, .bool b.l, .string b.s, .slice D Dn Dc] ∧ N < 2 ^ 63 ∧ IsIts w a.xs A An Ac ∧ IsIts w b.xs D Dn Dc := by
  obtain ⟨cs, rfl, hsz⟩ := okWide_struct Try.underlying26 hv
  obtain ⟨fuel, hf⟩ := h
  obtain ⟨xs, n, _, hx, hl, hlen, hat⟩ := DataW.trod_struct Try.underlying26 hf
  simp only [Prod.mk.injEq] at hx
  obtain ⟨rfl, _⟩ := hx
  obtain ⟨cl⟩ := cs
  have hcl : (Value.agg ⟨cl⟩).cells.toList = cl := rfl
  rw [hcl] at hl hat
  rw [cells_four] at hl
  match cl, hl with
  | [v0, v1, v2, v3, v4, v5, v6, v7], _ =>
    match xs, hlen with
    | [y0, y1, y2, y3], _ =>
      have g0 : DataW.trod enc Try.prog w 0 (fun _ => true) true n 3 ((([v0, v1, v2, v3, v4, v5, v6, v7] : List Value).drop 0).take (Try.prog.cellsOf 3)) = some y0 := hat 0 _ rfl
      have g1 : DataW.trod enc Try.prog w 0 (fun _ => true) true n 4 ((([v0, v1, v2, v3, v4, v5, v6, v7] : List Value).drop 1).take (Try.prog.cellsOf 4)) = some y1 := hat 1 _ rfl
      have g2 : DataW.trod enc Try.prog w 0 (fun _ => true) true n 24 ((([v0, v1, v2, v3, v4, v5, v6, v7] : List Value).drop 2).take (Try.prog.cellsOf 24)) = some y2 := hat 2 _ rfl
      have g3 : DataW.trod enc Try.prog w 0 (fun _ => true) true n 24 ((([v0, v1, v2, v3, v4, v5, v6, v7] : List Value).drop 5).take (Try.prog.cellsOf 24)) = some y3 := hat 3 _ rfl
      rw [cells_int] at g0
      rw [cells_bool] at g1
      rw [cells_item] at g2 g3
      obtain ⟨N, e0, _, hN⟩ := DataW.trod_int Try.underlying3 g0
      obtain ⟨l, e1, _⟩ := DataW.trod_bool Try.underlying4 g1
      obtain ⟨la, sa, va, z0, z1, z2, n2, e2, hx2, h2⟩ := item_of g2
      obtain ⟨lb, sb, vb, u0, u1, u2, n3, e3, hx3, h3⟩ := item_of g3
      simp at e0 e1 e2 e3
      obtain ⟨rfl, rfl, rfl⟩ := e2
      obtain ⟨rfl, rfl, rfl⟩ := e3
      subst e0 e1
      have hww : ∀ q ∈ DataW.weights Try.prog 26 (.agg [y0.1, y1.1, y2.1, y3.1]), q ≤ reachBytes := hw
      rw [DataW.weights, Try.underlying26] at hww
      obtain ⟨⟨xa, A, An, Ac⟩, hva, hIa⟩ := its_of (SizeOf.sizeOf z2.1) n2 _ z2 (Nat.le_refl _) h2 (fun q hq => hww q (DataW.weights_mem_each (j := 2) rfl rfl q (by
        rw [hx2, DataW.weights, Try.underlying24]
        exact DataW.weights_mem_each (j := 2) rfl rfl q hq)))
      obtain ⟨⟨xb, D, Dn, Dc⟩, hvb, hIb⟩ := its_of (SizeOf.sizeOf u2.1) n3 _ u2 (Nat.le_refl _) h3 (fun q hq => hww q (DataW.weights_mem_each (j := 3) rfl rfl q (by
        rw [hx3, DataW.weights, Try.underlying24]
        exact DataW.weights_mem_each (j := 2) rfl rfl q hq)))
      simp at hva hvb
      subst hva hvb
      have hb := bounds_i64 hN
      exact ⟨N, l, .mk la sa xa, .mk lb sb xb, A, D, An, Ac, Dn, Dc, rfl, by omega, hIa, hIb⟩

set_option maxRecDepth 100000 in
theorem lifted (os : Os) (started : os.Started) (H : Type) (enc : TypeId × Value → H) :
    ReturnsInHanded {} Try.checked os 3 .any (Rows.rlpHeadsSpec.pre6 enc Try.prog Try.f3 Rows.rlpHeadsRow.domain false) (Rows.rlpHeadsSpec.post enc Try.prog Try.f3 false true false false) := by
  refine returnsInHanded_of_change_sized (C := Try.checked) own started (by kernel_rfl) Try.func3
    (ChangeSpec.witness6 (enc := enc) (C := Try.checked) false ⟨#[], #[.agg #[.int .i64 0, .bool false, .bool false, .string ByteArray.empty, .slice none 0 0, .bool false, .string ByteArray.empty, .slice none 0 0]], []⟩ 8 (by kernel_rfl) (by kernel_rfl) (by kernel_rfl) (by kernel_rfl)) ?_
  intro W base args ds gs before hval0 hW _ hsz _
  have hval : ∀ (j : Nat) t v, Try.f3.params[j]? = some t → args[j]? = some v → Value.okWide Try.prog W .any base t v := hval0
  have hW' := hW
  obtain ⟨p, q, hA0, hV, rfl, hfz, hnd⟩ := hW
  have hA : DataW.TrodAll enc Try.prog W 0 (fun _ => true) true Try.f3.params.toList args.toList ds p := hA0
  have hszE : (DataW.weightsEach Try.prog (Try.f3.params.toList ++ Rows.rlpHeadsSpec.plain.varTypes Try.prog) (ds ++ gs)).all (· ≤ reachBytes) = true := hsz
  rw [Try.params3] at hA hval hszE
  obtain ⟨v0, vs0, d0, ds0, p0, q0, hargs, rfl, rfl, h0, r0⟩ := trodAll_cons hA
  obtain ⟨rfl, rfl, rfl⟩ := trodAll_nil r0
  obtain rfl : args = #[v0] := by cases args; simp_all
  obtain ⟨rfl, rfl⟩ := trodVars_none hV
  have k0 := h0
  have lt0 : ∀ x ∈ p0, x.block < W.heap.size := by obtain ⟨m, hm⟩ := k0; exact DataW.trod_lt m _ _ _ hm
  obtain ⟨N, l, a, b, A, D, An, Ac, Dn, Dc, rfl, hN, hIa, hIb⟩ := four_of (hval 0 26 v0 rfl rfl) h0 (fun n hn => by
    have := List.all_eq_true.1 hszE _ (DataW.weights_mem_each (j := 0) (t := 26) rfl rfl n hn)
    simpa using this)
  clear hA0 hval0
  refine (walk N hN l a b A D An Ac Dn Dc W hIa hIb).mono fun e W' ⟨he, bel⟩ => ?_
  subst he
  exact ⟨_, rfl, _, _, _, [], _, [], hW', trodAll_mk1 (shut_bool Try.underlying4 _), (trodAll_cons_mk (Below.trod laidOut (by kernel_rfl) (of_decide_eq_true (by kernel_rfl)) k0 bel lt0) trodAll_mk0), rfl, bel.frame _, fun h => by cases h⟩

theorem over : Rows.rlpHeadsRow.holds Try.pinned (OpenSpec.ofChange Rows.rlpHeadsSpec) :=
  OpenClaim.holds_of_wide 3 Try.f3 rfl rfl rfl rfl rfl rfl rfl ⟨rfl, rfl, rfl, rfl, rfl⟩ rfl rfl rfl rfl rfl (by kernel_rfl) Try.func3 (by kernel_rfl)
    (of_decide_eq_true (by kernel_rfl)) (by unfold Func.isWrapper; first | (rw [if_pos (by decide +kernel)]; kernel_rfl) | (rw [if_neg (by decide +kernel)]; exact ⟨rfl, rfl⟩))
    (fun os started H enc _ => lifted os started H enc)

theorem proved : Rows.RlpHeadsSaid := over

end Go.Proofs.Ytmnihiagkmdepaa.rlpHeads
