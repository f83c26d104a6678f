/-
  SumReads: any sum as digits, as bytes, and back; its order; any text read. The walk.
-/
import Derived.Test.YtgpnhdnncfpbcaaDoorSumK
import Derived.Test.YtgpnhdnncfpbcaaDoorBsIn
namespace Go.Proofs.YtgpnhdnncfpbcaaDoor
open Go.RowKit Go.ChangeShapes Go.WideShapes

namespace Sm
open Sh
def byteOf : Value → UInt8
  | .int _ n => UInt8.ofNat n.toNat
  | _ => 0
theorem isSum_of {H : Type} {enc : TypeId × Value → H} {P : Program} {w : World} {t e : TypeId} {v : Value} {d : DataW H} {p : List MemPlace} {base : Nat}
    (ht : P.underlying t = some (.array 32 e)) (he : P.underlying e = some (.int .u8)) (hc : P.cellsOf e = 1) (hct : P.cellsOf t = 32)
    (hv : Value.okWide P w .any base t v) (h : DataW.Trod enc P w 0 (fun _ => true) true t v d p) : ∃ k : List UInt8, v = .agg (kc k) ∧ k.length = 32 := by
  unfold Value.okWide at hv
  rw [ht] at hv
  obtain ⟨cs, rfl, hsz, _⟩ := hv
  rw [hct] at hsz
  obtain ⟨fuel, hf⟩ := h
  obtain ⟨xs, m, rfl, _, hcs, hxl, hel⟩ := DataW.trod_array ht hf
  have each : ∀ i, i < 32 → ∃ n : Int, cs.toList[i]? = some (.int .u8 n) ∧ 0 ≤ n ∧ n < 256 := fun i hi => by
    have hi' := hel i hi
    rw [hc, Nat.mul_one] at hi'
    have hx : i < xs.length := by omega
    rw [List.getElem?_eq_getElem hx] at hi'
    obtain ⟨n, hn, _, hw⟩ := DataW.trod_int he hi'
    have hlen : i < cs.toList.length := by simpa [hsz] using hi
    have e1 : (cs.toList.drop i).take 1 = [cs.toList[i]] := by
      rw [List.drop_eq_getElem_cons hlen]; rfl
    have e2 : (Value.agg cs).cells.toList = cs.toList := rfl
    rw [e2, e1] at hn
    injection hn with hn
    refine ⟨n, ?_, u8_wf hw⟩
    rw [List.getElem?_eq_getElem hlen, hn]
  refine ⟨cs.toList.map byteOf, ?_, by simp [hsz]⟩
  congr 1
  apply Array.ext'
  unfold kc
  rw [List.map_map]
  apply List.ext_getElem?
  intro i
  by_cases hi : i < 32
  · obtain ⟨n, hn, h0, h1⟩ := each i hi
    rw [hn]
    simp only [List.getElem?_map, hn, Option.map_some, Function.comp, byteOf]
    have : ((UInt8.ofNat n.toNat).toNat : Int) = n := by simp only [UInt8.toNat_ofNat']; omega
    rw [this]
  · rw [List.getElem?_eq_none (by simp [hsz]; omega), List.getElem?_eq_none (by simp [hsz]; omega)]

/-- what is read of any text -/
theorem read_any (s : ByteArray) : ∃ (c : List UInt8) (g : Int), c.length = 32 ∧ ((g = 0 ∧ (⟨(hexK c 32).toArray⟩ : ByteArray) = s) ∨ (g = 6 ∧ c = zk)) ∧
    ∀ w : World, Calls Tryd.prog 13 #[.string s] w fun e w' => e = .returned (.tuple #[.agg (kc c), .int .i64 g]) ∧ Below w.heap.size w w' := by
  have heta : (⟨s.data.toList.toArray⟩ : ByteArray) = s := by apply ByteArray.ext; simp
  by_cases h : s.size = 64
  · have hr := fun w => read_64 s h w
    cases ho : okH s.data.toList with
    | true =>
      refine ⟨unhexL s.data.toList, 0, unhexL_length _, Or.inl ⟨rfl, by rw [unhex_hex _ ho, heta]⟩, fun w => ?_⟩
      have := hr w
      rw [readE_ok ho] at this
      exact this
    | false =>
      refine ⟨zk, 6, rfl, Or.inr ⟨rfl, rfl⟩, fun w => ?_⟩
      have := hr w
      rw [readE_no ho] at this
      exact this
  · exact ⟨zk, 6, rfl, Or.inr ⟨rfl, rfl⟩, fun w => read_len s h w⟩
theorem from_any (s : ByteArray) (hm : s.size ≤ maxLen) : ∃ (d : List UInt8) (i : Int), d.length = 32 ∧ ((s.size < 32 ∧ d = zk ∧ i = 5) ∨ (32 < s.size ∧ d = zk ∧ i = 6) ∨ (s.size = 32 ∧ i = 0 ∧ (⟨d.toArray⟩ : ByteArray) = s)) ∧
    ∀ w : World, Calls Tryd.prog 14 #[.string s] w fun e w' => e = .returned (.tuple #[.agg (kc d), .int .i64 i]) ∧ Below w.heap.size w w' := by
  have heta : (⟨s.data.toList.toArray⟩ : ByteArray) = s := by apply ByteArray.ext; simp
  by_cases h1 : s.size < 32
  · exact ⟨zk, 5, rfl, Or.inl ⟨h1, rfl, rfl⟩, fun w => from_short s h1 w⟩
  by_cases h2 : 32 < s.size
  · exact ⟨zk, 6, rfl, Or.inr (Or.inl ⟨h2, rfl, rfl⟩), fun w => from_long s h2 hm w⟩
  have h3 : s.size = 32 := by omega
  exact ⟨s.data.toList, 0, by simpa using h3, Or.inr (Or.inr ⟨h3, rfl, heta⟩), fun w => from_ok s h3 w⟩
theorem rhex_any (k : List UInt8) (hk : k.length = 32) (w : World) :
    Calls Tryd.prog 15 #[.string ⟨k.toArray⟩] w fun e w' => e = .returned (.string ⟨(hexK k 32).toArray⟩) ∧ Below w.heap.size w w' := by
  have hs : (⟨k.toArray⟩ : ByteArray).size = 32 := by rw [ba_size, hk]
  have h := Sh.hex_any ⟨k.toArray⟩ (by omega) w
  rw [hs] at h
  refine h.mono fun e w' h => ⟨h.1, ?_⟩
  obtain ⟨q, rfl⟩ := h.2
  exact below_drewN (Below.refl _ _) q
theorem run_lss_op (ev : Operand → Value) (o : Oper) (s t : ByteArray) (v : Bool) (hv : Op.bytesLess s.toList t.toList = v) (w : World) (h : ∃ T U x y, o.op = .binOp .lss T x y U ∧ ev x = .string s ∧ ev y = .string t) :
    (execOp ev o).run Tryd.prog w = .ok (.value (.bool v)) w := by
  subst hv
  obtain ⟨T, U, x, y, ho, hx, hy⟩ := h
  unfold execOp
  simp [ho, hx, hy, binOp_string_lss, eqGuard_lss]
theorem run_neqb_op (ev : Operand → Value) (o : Oper) (v : Bool) (w : World) (h : ∃ x y, o.op = .binOp .neq 4 x y 4 ∧ ev x = .bool v ∧ ev y = .bool v) :
    (execOp ev o).run Tryd.prog w = .ok (.value (.bool false)) w := by
  obtain ⟨x, y, ho, hx, hy⟩ := h
  unfold execOp
  simp [ho, hx, hy, eqGuard_at_bool, run_neq_bool w 4 v v Tryd.underlying4]

set_option maxRecDepth 100000 in
set_option maxHeartbeats 16000000 in
theorem reads_walk (x y : List UInt8) (hx : x.length = 32) (hy : y.length = 32) (s : ByteArray) (hsm : s.size ≤ maxLen) (w : World) (hT : Tab w) :
    Calls Tryd.prog 4 #[.agg (kc x), .agg (kc y), .string s] w fun e w' => e = .returned (.bool true) ∧ Below w.heap.size w w' := by
  have h0 := hT.pos
  have HT := Lib.hid hT
  obtain ⟨c, g, hc, hcg, hRd⟩ := read_any s
  obtain ⟨d, i, hd, hdi, hFr⟩ := from_any s hsm
  have HRd := Lib.hid hRd
  have HFs := Lib.hid hFr
  have Hc := Lib.hid hc
  have Hd := Lib.hid hd
  have HCG := Lib.hid hcg
  have HDI := Lib.hid hdi
  unfold maxLen at hsm
  have Hx := Lib.hid hx
  have Hy := Lib.hid hy
  have HH := Lib.hid (fun W => hex_any x hx W)
  have HRh := Lib.hid (fun W => rhex_any x hx W)
  have HRx := Lib.hid (fun W => read_64 ⟨(hexK x 32).toArray⟩ (by rw [ba_size, hexK_length x 32 (by omega)]) W)
  rw [show (⟨(hexK x 32).toArray⟩ : ByteArray).data.toList = hexK x 32 by simp, readE_ok (hex_ok x hx)] at HRx
  unfold readOk at HRx
  rw [hex_unhex x hx] at HRx
  have HTx := Lib.hid (fun W => text_any x hx W)
  have HTy := Lib.hid (fun W => text_any y hy W)
  have HFr := Lib.hid (fun W => from_ok ⟨x.toArray⟩ (by rw [ba_size, hx]) W)
  rw [show (⟨x.toArray⟩ : ByteArray).data.toList = x by simp] at HFr
  have HLs := Lib.hid (fun W => less_any x y hx hy W)
  have HV : Hid (Op.bytesLess (⟨x.toArray⟩ : ByteArray).toList (⟨y.toArray⟩ : ByteArray).toList = Op.bytesLess x y) := Lib.hid (by rw [Lib.toList_data, Lib.toList_data])
  obtain ⟨v, hv⟩ : ∃ v, Op.bytesLess x y = v := ⟨_, rfl⟩
  rw [hv] at HLs HV
  obtain ⟨TX, hTX⟩ : ∃ T, (⟨x.toArray⟩ : ByteArray) = T := ⟨_, rfl⟩
  rw [hTX] at HTx HFr HV HRh
  obtain ⟨TY, hTY⟩ : ∃ T, (⟨y.toArray⟩ : ByteArray) = T := ⟨_, rfl⟩
  rw [hTY] at HTy HV
  obtain ⟨H, hH⟩ : ∃ T, (⟨(hexK x 32).toArray⟩ : ByteArray) = T := ⟨_, rfl⟩
  rw [hH] at HH HRh HRx
  clear hv hTX hTY hH hx hy hT hRd hFr hc hd hcg hdi
  have h3 : Rg.Own ((w.alloc (.cells (kc x) 27)).alloc (.cells (kc y) 27)) w.heap.size (kc x) 27 := (Rg.Own.new w _ _).below ((Below.refl _ _).alloc (Nat.le_refl _) _)
  have h4 : Rg.Own ((w.alloc (.cells (kc x) 27)).alloc (.cells (kc y) 27)) (w.heap.size + 1) (kc y) 27 := by
    have := Rg.Own.new (w.alloc (.cells (kc x) 27)) (kc y) 27
    simpa using this
  have hB : Below w.heap.size w ((w.alloc (.cells (kc x) 27)).alloc (.cells (kc y) 27)) := ((Below.refl _ _).alloc (Nat.le_refl _) _).alloc (by simp) _
  go_enter Tryd.func4, Tryd.ntmps4
  by_cases h200 : 200 < s.size
  · have hT2 := HT.out.below hB h0
    go_wp2_with fail
    refine (awake_any _ hT2).mono ?_
    rintro e w1 ⟨rfl, hb1⟩
    go_wp2
    go_ret
    exact ⟨rfl, hB.trans (hb1.mono hB.size)⟩
  go_wp2_with (refine Rg.runW (by rfl) _ _ (run_load_sum _ _ _ w.heap.size x Hx.out ⟨_, rfl, rfl⟩ h3) ?_)
  generalize ((w.alloc (.cells (kc x) 27)).alloc (.cells (kc y) 27)) = W0 at h3 h4 hB ⊢
  refine (HH.out _).mono ?_
  rintro e w1 ⟨rfl, hb1⟩
  replace h3 := h3.below hb1
  replace h4 := h4.below hb1
  have hB1 := hB.trans (hb1.mono hB.size)
  clear hb1 hB W0
  go_wp2_with (refine Rg.runW (by rfl) _ _ (run_load_sum _ _ _ w.heap.size x Hx.out ⟨_, rfl, rfl⟩ h3) ?_)
  refine (HTx.out _).mono ?_
  rintro e w2 ⟨rfl, hb2⟩
  replace h3 := h3.below hb2
  replace h4 := h4.below hb2
  have hB2 := hB1.trans (hb2.mono hB1.size)
  clear hb2 hB1 w1
  go_wp2_with fail
  refine (HRx.out _).mono ?_
  rintro e w3 ⟨rfl, hb3⟩
  obtain ⟨h9, hB3, hx3⟩ := box (hB2.trans (hb3.mono hB2.size)) x
  replace h3 := (h3.below hb3).below hx3
  replace h4 := (h4.below hb3).below hx3
  go_wp2_with (first | (refine wpList_run rfl _ _ (run_alloc_sum _ _ rfl _ _ rfl) ?_) | (refine wpList_store_rowTo rfl 27 _ _ rfl rfl _ (kc x) rfl rfl 27 (kc zk) (box_cells _) (info_kc x Hx.out) (by rw [kc_size, kc_size, Hx.out]; rfl) (kc_one _) ?_))
  generalize ((w3.alloc (.cells (kc zk) 27)).setRow w3.heap.size (kc x)) = W3 at h9 hB3 hx3 h3 h4 ⊢
  generalize w3.heap.size = b9 at h9 hx3 ⊢
  clear hx3 hb3 hB2 w3 w2
  refine (HFr.out _).mono ?_
  rintro e w4 ⟨rfl, hb4⟩
  obtain ⟨h11, hB4, hx4⟩ := box (hB3.trans (hb4.mono hB3.size)) x
  replace h3 := Lib.hid ((h3.below hb4).below hx4)
  replace h4 := Lib.hid ((h4.below hb4).below hx4)
  replace h9 := Lib.hid ((h9.below hb4).below hx4)
  go_upto_region 7 with (first | (refine wpList_run rfl _ _ (run_alloc_sum _ _ rfl _ _ rfl) ?_) | (refine wpList_store_rowTo rfl 27 _ _ rfl rfl _ (kc x) rfl rfl 27 (kc zk) (box_cells _) (info_kc x Hx.out) (by rw [kc_size, kc_size, Hx.out]; rfl) (kc_one _) ?_))
  generalize ((w4.alloc (.cells (kc zk) 27)).setRow w4.heap.size (kc x)) = W at h11 hB4 hx4 h3 h4 h9 ⊢
  generalize w4.heap.size = b11 at h11 hx4 ⊢
  replace h11 := Lib.hid h11
  have HB := Lib.hid hB4
  clear hx4 hb4 hB4 hB3 w4 W3
  go_cut [66] (fun q wx => q = .bool false ∧ Hid (Below W.heap.size W wx))
  case first =>
    refine wp_region_noPanic ?_
    refine wp_region_held_drew (S := fun w' => Below W.heap.size W w') (by kernel_rfl) ((Below.refl _ _).drew) (fun hHeld => ?_)
    refine Rg.takeL (i := 0) (v := ?_) rfl (by kernel_rfl) (by kernel_rfl) (by kernel_rfl) (fun _ _ _ h => h) (Or.inl ⟨by rfl, ?_⟩) (by assumption) ?_
    rotate_left
    · (intro wz hSw; (try dsimp only at hSw); go_simp <;> with_reducible rfl)
    try simp only [Act.put, List.setIfInBounds_toArray, List.set_cons_zero, List.set_cons_succ]
    refine Rg.takeL (i := 1) (v := ?_) rfl (by kernel_rfl) (by kernel_rfl) (by kernel_rfl) (fun _ _ _ h => h) (Or.inl ⟨by rfl, ?_⟩) (by assumption) ?_
    rotate_left
    · (intro wz hSw; (try dsimp only at hSw); go_simp <;> with_reducible rfl)
    try simp only [Act.put, List.setIfInBounds_toArray, List.set_cons_zero, List.set_cons_succ]
    refine wpAnyH_ready (rs := [2]) (by kernel_rfl) (by simp) ?_
    refine Rg.readyL (i := 2) rfl (fun K hK => ?_)
    go_simp
    go_at_call 15
    (with_reducible refine (HRh.out _).mono ?_)
    rintro e wv0 ⟨rfl, hbx⟩
    refine hK.out _ _ ?_ (fun hHeld => ?_)
    · exact Below.trans hHeld (hbx.mono hHeld.size)
    clear hK K
    try simp only [Act.put, List.setIfInBounds_toArray, List.set_cons_zero, List.set_cons_succ]
    refine Rg.takeL (i := 3) (v := ?_) rfl (by kernel_rfl) (by kernel_rfl) (by kernel_rfl) (fun _ _ _ h => h) (Or.inl ⟨by rfl, ?_⟩) (by assumption) ?_
    rotate_left
    · (intro wz hSw; (try dsimp only at hSw); go_simp <;> with_reducible rfl)
    try simp only [Act.put, List.setIfInBounds_toArray, List.set_cons_zero, List.set_cons_succ]
    refine Rg.takeL (i := 4) (v := ?_) rfl (by kernel_rfl) (by kernel_rfl) (by kernel_rfl) (fun _ _ _ h => h) (Or.inl ⟨by rfl, ?_⟩) (by assumption) ?_
    rotate_left
    · (intro wz hSw; (try dsimp only at hSw); go_simp <;> with_reducible rfl)
    try simp only [Act.put, List.setIfInBounds_toArray, List.set_cons_zero, List.set_cons_succ]
    refine Rg.takeL (i := 5) (v := ?_) rfl (by kernel_rfl) (by kernel_rfl) (by kernel_rfl) (fun _ _ _ h => h) (Or.inl ⟨by rfl, ?_⟩) (by assumption) ?_
    rotate_left
    · (intro wz hSw; refine run_load_sum _ _ wz b9 x Hx.out ?_ (h9.out.below hSw); exact ⟨_, rfl, rfl⟩)
    try simp only [Act.put, List.setIfInBounds_toArray, List.set_cons_zero, List.set_cons_succ]
    refine Rg.takeL (i := 6) (v := ?_) rfl (by kernel_rfl) (by kernel_rfl) (by kernel_rfl) (fun _ _ _ h => h) (Or.inl ⟨by rfl, ?_⟩) (by assumption) ?_
    rotate_left
    · (intro wz hSw; refine run_load_sum _ _ wz w.heap.size x Hx.out ?_ (h3.out.below hSw); exact ⟨_, rfl, rfl⟩)
    try simp only [Act.put, List.setIfInBounds_toArray, List.set_cons_zero, List.set_cons_succ]
    refine Rg.takeL (i := 7) (v := ?_) rfl (by kernel_rfl) (by kernel_rfl) (by kernel_rfl) (fun _ _ _ h => h) (Or.inl ⟨by rfl, ?_⟩) (by assumption) ?_
    rotate_left
    · (intro wz hSw; refine run_neq_op _ _ x Hx.out wz ?_; exact ⟨_, _, rfl, rfl, rfl⟩)
    try simp only [Act.put, List.setIfInBounds_toArray, List.set_cons_zero, List.set_cons_succ]
    refine Rg.takeL (i := 8) (v := ?_) rfl (by kernel_rfl) (by kernel_rfl) (by kernel_rfl) (fun _ _ _ h => h) (Or.inl ⟨by rfl, ?_⟩) (by assumption) ?_
    rotate_left
    · (intro wz hSw; (try dsimp only at hSw); go_simp <;> with_reducible rfl)
    try simp only [Act.put, List.setIfInBounds_toArray, List.set_cons_zero, List.set_cons_succ]
    refine Rg.takeL (i := 9) (v := ?_) rfl (by kernel_rfl) (by kernel_rfl) (by kernel_rfl) (fun _ _ _ h => h) (Or.inl ⟨by rfl, ?_⟩) (by assumption) ?_
    rotate_left
    · (intro wz hSw; (try dsimp only at hSw); go_simp <;> with_reducible rfl)
    try simp only [Act.put, List.setIfInBounds_toArray, List.set_cons_zero, List.set_cons_succ]
    refine Rg.takeL (i := 10) (v := ?_) rfl (by kernel_rfl) (by kernel_rfl) (by kernel_rfl) (fun _ _ _ h => h) (Or.inl ⟨by rfl, ?_⟩) (by assumption) ?_
    rotate_left
    · (intro wz hSw; (try dsimp only at hSw); go_simp <;> with_reducible rfl)
    try simp only [Act.put, List.setIfInBounds_toArray, List.set_cons_zero, List.set_cons_succ]
    refine Rg.takeL (i := 11) (v := ?_) rfl (by kernel_rfl) (by kernel_rfl) (by kernel_rfl) (fun _ _ _ h => h) (Or.inl ⟨by rfl, ?_⟩) (by assumption) ?_
    rotate_left
    · (intro wz hSw; (try dsimp only at hSw); go_simp <;> with_reducible rfl)
    try simp only [Act.put, List.setIfInBounds_toArray, List.set_cons_zero, List.set_cons_succ]
    refine Rg.takeL (i := 12) (v := ?_) rfl (by kernel_rfl) (by kernel_rfl) (by kernel_rfl) (fun _ _ _ h => h) (Or.inl ⟨by rfl, ?_⟩) (by assumption) ?_
    rotate_left
    · (intro wz hSw; (try dsimp only at hSw); go_simp <;> with_reducible rfl)
    try simp only [Act.put, List.setIfInBounds_toArray, List.set_cons_zero, List.set_cons_succ]
    refine Rg.takeL (i := 13) (v := ?_) rfl (by kernel_rfl) (by kernel_rfl) (by kernel_rfl) (fun _ _ _ h => h) (Or.inl ⟨by rfl, ?_⟩) (by assumption) ?_
    rotate_left
    · (intro wz hSw; (try dsimp only at hSw); go_simp <;> with_reducible rfl)
    try simp only [Act.put, List.setIfInBounds_toArray, List.set_cons_zero, List.set_cons_succ]
    refine Rg.takeL (i := 14) (v := ?_) rfl (by kernel_rfl) (by kernel_rfl) (by kernel_rfl) (fun _ _ _ h => h) (Or.inl ⟨by rfl, ?_⟩) (by assumption) ?_
    rotate_left
    · (intro wz hSw; refine run_load_sum _ _ wz b11 x Hx.out ?_ (h11.out.below hSw); exact ⟨_, rfl, rfl⟩)
    try simp only [Act.put, List.setIfInBounds_toArray, List.set_cons_zero, List.set_cons_succ]
    refine Rg.takeL (i := 15) (v := ?_) rfl (by kernel_rfl) (by kernel_rfl) (by kernel_rfl) (fun _ _ _ h => h) (Or.inl ⟨by rfl, ?_⟩) (by assumption) ?_
    rotate_left
    · (intro wz hSw; refine run_load_sum _ _ wz w.heap.size x Hx.out ?_ (h3.out.below hSw); exact ⟨_, rfl, rfl⟩)
    try simp only [Act.put, List.setIfInBounds_toArray, List.set_cons_zero, List.set_cons_succ]
    refine Rg.takeL (i := 16) (v := ?_) rfl (by kernel_rfl) (by kernel_rfl) (by kernel_rfl) (fun _ _ _ h => h) (Or.inl ⟨by rfl, ?_⟩) (by assumption) ?_
    rotate_left
    · (intro wz hSw; refine run_neq_op _ _ x Hx.out wz ?_; exact ⟨_, _, rfl, rfl, rfl⟩)
    try simp only [Act.put, List.setIfInBounds_toArray, List.set_cons_zero, List.set_cons_succ]
    refine Rg.takeL (i := 17) (v := ?_) rfl (by kernel_rfl) (by kernel_rfl) (by kernel_rfl) (fun _ _ _ h => h) (Or.inl ⟨by rfl, ?_⟩) (by assumption) ?_
    rotate_left
    · (intro wz hSw; (try dsimp only at hSw); go_simp <;> with_reducible rfl)
    try simp only [Act.put, List.setIfInBounds_toArray, List.set_cons_zero, List.set_cons_succ]
    refine Rg.takeL (i := 18) (v := ?_) rfl (by kernel_rfl) (by kernel_rfl) (by kernel_rfl) (fun _ _ _ h => h) (Or.inl ⟨by rfl, ?_⟩) (by assumption) ?_
    rotate_left
    · (intro wz hSw; (try dsimp only at hSw); go_simp <;> with_reducible rfl)
    try simp only [Act.put, List.setIfInBounds_toArray, List.set_cons_zero, List.set_cons_succ]
    refine Rg.takeL (i := 19) (v := ?_) rfl (by kernel_rfl) (by kernel_rfl) (by kernel_rfl) (fun _ _ _ h => h) (Or.inl ⟨by rfl, ?_⟩) (by assumption) ?_
    rotate_left
    · (intro wz hSw; (try dsimp only at hSw); go_simp <;> with_reducible rfl)
    try simp only [Act.put, List.setIfInBounds_toArray, List.set_cons_zero, List.set_cons_succ]
    refine Rg.takeL (i := 20) (v := ?_) rfl (by kernel_rfl) (by kernel_rfl) (by kernel_rfl) (fun _ _ _ h => h) (Or.inl ⟨by rfl, ?_⟩) (by assumption) ?_
    rotate_left
    · (intro wz hSw; (try dsimp only at hSw); go_simp <;> with_reducible rfl)
    try simp only [Act.put, List.setIfInBounds_toArray, List.set_cons_zero, List.set_cons_succ]
    refine Rg.takeL (i := 21) (v := ?_) rfl (by kernel_rfl) (by kernel_rfl) (by kernel_rfl) (fun _ _ _ h => h) (Or.inl ⟨by rfl, ?_⟩) (by assumption) ?_
    rotate_left
    · (intro wz hSw; (try dsimp only at hSw); go_simp <;> with_reducible rfl)
    try simp only [Act.put, List.setIfInBounds_toArray, List.set_cons_zero, List.set_cons_succ]
    refine Rg.takeL (i := 22) (v := ?_) rfl (by kernel_rfl) (by kernel_rfl) (by kernel_rfl) (fun _ _ _ h => h) (Or.inl ⟨by rfl, ?_⟩) (by assumption) ?_
    rotate_left
    · (intro wz hSw; (try dsimp only at hSw); go_simp <;> with_reducible rfl)
    try simp only [Act.put, List.setIfInBounds_toArray, List.set_cons_zero, List.set_cons_succ]
    refine Rg.takeL (i := 23) (v := ?_) rfl (by kernel_rfl) (by kernel_rfl) (by kernel_rfl) (fun _ _ _ h => h) (Or.inl ⟨by rfl, ?_⟩) (by assumption) ?_
    rotate_left
    · (intro wz hSw; refine run_load_sum _ _ wz w.heap.size x Hx.out ?_ (h3.out.below hSw); exact ⟨_, rfl, rfl⟩)
    try simp only [Act.put, List.setIfInBounds_toArray, List.set_cons_zero, List.set_cons_succ]
    refine Rg.takeL (i := 24) (v := ?_) rfl (by kernel_rfl) (by kernel_rfl) (by kernel_rfl) (fun _ _ _ h => h) (Or.inl ⟨by rfl, ?_⟩) (by assumption) ?_
    rotate_left
    · (intro wz hSw; refine run_load_sum _ _ wz (w.heap.size + 1) y Hy.out ?_ (h4.out.below hSw); exact ⟨_, rfl, rfl⟩)
    try simp only [Act.put, List.setIfInBounds_toArray, List.set_cons_zero, List.set_cons_succ]
    refine Rg.takeL (i := 26) (v := ?_) rfl (by kernel_rfl) (by kernel_rfl) (by kernel_rfl) (fun _ _ _ h => h) (Or.inl ⟨by rfl, ?_⟩) (by assumption) ?_
    rotate_left
    · (intro wz hSw; (try dsimp only at hSw); go_simp <;> with_reducible rfl)
    try simp only [Act.put, List.setIfInBounds_toArray, List.set_cons_zero, List.set_cons_succ]
    refine Rg.takeL (i := 27) (v := ?_) rfl (by kernel_rfl) (by kernel_rfl) (by kernel_rfl) (fun _ _ _ h => h) (Or.inl ⟨by rfl, ?_⟩) (by assumption) ?_
    rotate_left
    · (intro wz hSw; refine run_load_sum _ _ wz (w.heap.size + 1) y Hy.out ?_ (h4.out.below hSw); exact ⟨_, rfl, rfl⟩)
    try simp only [Act.put, List.setIfInBounds_toArray, List.set_cons_zero, List.set_cons_succ]
    refine wpAnyH_ready (rs := [25]) (by kernel_rfl) (by simp) ?_
    refine Rg.readyL (i := 25) rfl (fun K hK => ?_)
    go_simp
    go_at_call 16
    (with_reducible refine (HLs.out _).mono ?_)
    rintro e wv1 ⟨rfl, hbx⟩
    refine hK.out _ _ ?_ (fun hHeld => ?_)
    · exact Below.trans hHeld (hbx.mono hHeld.size)
    clear hK K
    try simp only [Act.put, List.setIfInBounds_toArray, List.set_cons_zero, List.set_cons_succ]
    refine wpAnyH_ready (rs := [28]) (by kernel_rfl) (by simp) ?_
    refine Rg.readyL (i := 28) rfl (fun K hK => ?_)
    go_simp
    go_at_call 7
    (with_reducible refine (HTy.out _).mono ?_)
    rintro e wv2 ⟨rfl, hbx⟩
    refine hK.out _ _ ?_ (fun hHeld => ?_)
    · exact Below.trans hHeld (hbx.mono hHeld.size)
    clear hK K
    try simp only [Act.put, List.setIfInBounds_toArray, List.set_cons_zero, List.set_cons_succ]
    refine Rg.takeL (i := 29) (v := ?_) rfl (by kernel_rfl) (by kernel_rfl) (by kernel_rfl) (fun _ _ _ h => h) (Or.inl ⟨by rfl, ?_⟩) (by assumption) ?_
    rotate_left
    · (intro wz hSw; refine run_lss_op _ _ TX TY v HV.out wz ?_; exact ⟨_, _, _, _, rfl, rfl, rfl⟩)
    try simp only [Act.put, List.setIfInBounds_toArray, List.set_cons_zero, List.set_cons_succ]
    refine Rg.takeL (i := 30) (v := ?_) rfl (by kernel_rfl) (by kernel_rfl) (by kernel_rfl) (fun _ _ _ h => h) (Or.inl ⟨by rfl, ?_⟩) (by assumption) ?_
    rotate_left
    · (intro wz hSw; refine run_neqb_op _ _ v wz ?_; exact ⟨_, _, rfl, rfl, rfl⟩)
    try simp only [Act.put, List.setIfInBounds_toArray, List.set_cons_zero, List.set_cons_succ]
    refine Rg.takeL (i := 31) (v := ?_) rfl (by kernel_rfl) (by kernel_rfl) (by kernel_rfl) (fun _ _ _ h => h) (Or.inl ⟨by rfl, ?_⟩) (by assumption) ?_
    rotate_left
    · (intro wz hSw; (try dsimp only at hSw); go_simp <;> with_reducible rfl)
    try simp only [Act.put, List.setIfInBounds_toArray, List.set_cons_zero, List.set_cons_succ]
    refine wpAnyH_done (by kernel_rfl) ?_ _
    refine NoPanic.normal ?_
    go_wp2_with fail
    go_meet
    exact ⟨rfl, Lib.hid hHeld⟩
  case rest =>
    obtain ⟨rfl, HW⟩ := hcut
    have hB5 := HB.out.trans (HW.out.mono HB.out.size)
    clear HB HW h3 h4 h9 h11 HLs HFr HTx HTy HRx HRh HH HV
    have Hzk := Lib.hid zk_length
    have HHc := Lib.hid (fun W => hex_any c Hc.out W)
    have HTd := Lib.hid (fun W => text_any d Hd.out W)
    go_wp2_with fail
    refine (HRd.out _).mono ?_
    rintro e w6 ⟨rfl, hb6⟩
    obtain ⟨h13, hB6, hx6⟩ := box (hB5.trans (hb6.mono hB5.size)) c
    go_wp2_with (first | (refine wpList_run rfl _ _ (run_alloc_sum _ _ rfl _ _ rfl) ?_) | (refine wpList_store_rowTo rfl 27 _ _ rfl rfl _ (kc c) rfl rfl 27 (kc zk) (box_cells _) (info_kc c Hc.out) (by rw [kc_size, kc_size, Hc.out]; rfl) (kc_one _) ?_))
    generalize ((w6.alloc (.cells (kc zk) 27)).setRow w6.heap.size (kc c)) = W6 at h13 hB6 hx6 ⊢
    generalize w6.heap.size = b13 at h13 hx6 ⊢
    clear hx6 hb6 hB5
    refine (HFs.out _).mono ?_
    rintro e w7 ⟨rfl, hb7⟩
    obtain ⟨h15, hB7, hx7⟩ := box (hB6.trans (hb7.mono hB6.size)) d
    replace h13 := (h13.below hb7).below hx7
    go_upto_region 11 with (first | (refine wpList_run rfl _ _ (run_alloc_sum _ _ rfl _ _ rfl) ?_) | (refine wpList_store_rowTo rfl 27 _ _ rfl rfl _ (kc d) rfl rfl 27 (kc zk) (box_cells _) (info_kc d Hd.out) (by rw [kc_size, kc_size, Hd.out]; rfl) (kc_one _) ?_))
    generalize ((w7.alloc (.cells (kc zk) 27)).setRow w7.heap.size (kc d)) = W7 at h15 hB7 hx7 h13 ⊢
    generalize w7.heap.size = b15 at h15 hx7 ⊢
    clear hx7 hb7 hB6
    have HB7 := Lib.hid hB7
    replace h13 := Lib.hid h13
    replace h15 := Lib.hid h15
    clear hB7
    go_cut [97] (fun q wx => q = .bool false ∧ Hid (Below w.heap.size w wx) ∧ Hid (Rg.Own wx b15 (kc d) 27))
    case first =>
      rcases HCG.out with ⟨rfl, hs⟩ | ⟨rfl, rfl⟩
      · rw [hs] at HHc
        have h13' := h13.out
        go_wp2_with (refine Rg.runW (by rfl) _ _ (run_load_sum _ _ _ b13 c Hc.out ⟨_, rfl, rfl⟩ h13') ?_)
        refine (HHc.out _).mono ?_
        rintro e w8 ⟨rfl, hb8⟩
        have HB8 := Lib.hid (HB7.out.trans (hb8.mono HB7.out.size))
        have h158 := Lib.hid (h15.out.below hb8)
        go_wp2_with fail
        go_meet
        exact ⟨rfl, HB8, h158⟩
      · have h13' := h13.out
        go_wp2_with (first | (refine Rg.runW (by rfl) _ _ (run_load_sum _ _ _ b13 zk Hzk.out ⟨_, rfl, rfl⟩ h13') ?_) | (refine Rg.runW (by rfl) _ _ (run_build_sum _ _ rfl _) ?_) | (refine Rg.runW (by rfl) _ _ (run_neq_op _ _ zk Hzk.out _ ⟨_, _, rfl, rfl, rfl⟩) ?_))
        go_meet
        exact ⟨rfl, HB7, h15⟩
    case rest =>
      obtain ⟨rfl, HBz, H15⟩ := hcut
      have hB8 := HBz.out
      have h15z := H15.out
      clear HCG HHc HRd HFs h13 h15 HB7 HBz H15
      rcases HDI.out with ⟨hlt, rfl, rfl⟩ | ⟨hgt, rfl, rfl⟩ | ⟨hq, rfl, hs⟩
      · have hT8 := HT.out.below hB8 h0
        go_wp2_with fail
        refine (awake_any _ hT8).mono ?_
        rintro e w9 ⟨rfl, hb9⟩
        have h159 := h15z.below hb9
        have hB9 := hB8.trans (hb9.mono hB8.size)
        clear hb9 hT8
        go_wp2_with (first | (refine Rg.runW (by rfl) _ _ (run_load_sum _ _ _ b15 zk Hzk.out ⟨_, rfl, rfl⟩ h159) ?_) | (refine Rg.runW (by rfl) _ _ (run_build_sum _ _ rfl _) ?_) | (refine Rg.runW (by rfl) _ _ (run_eql_op _ _ zk Hzk.out _ ⟨_, _, rfl, rfl, rfl⟩) ?_))
        go_ret
        exact ⟨rfl, hB9⟩
      · have hT8 := HT.out.below hB8 h0
        have hge : ¬ s.size < 32 := by omega
        go_wp2_with fail
        refine (awake_any _ hT8).mono ?_
        rintro e w9 ⟨rfl, hb9⟩
        have h159 := h15z.below hb9
        have hB9 := hB8.trans (hb9.mono hB8.size)
        clear hb9 hT8
        go_wp2_with (first | (refine Rg.runW (by rfl) _ _ (run_load_sum _ _ _ b15 zk Hzk.out ⟨_, rfl, rfl⟩ h159) ?_) | (refine Rg.runW (by rfl) _ _ (run_build_sum _ _ rfl _) ?_) | (refine Rg.runW (by rfl) _ _ (run_eql_op _ _ zk Hzk.out _ ⟨_, _, rfl, rfl, rfl⟩) ?_))
        go_ret
        exact ⟨rfl, hB9⟩
      · have hT8 := HT.out.below hB8 h0
        rw [hs] at HTd
        have hge : ¬ s.size < 32 := by omega
        have hle : ¬ 32 < s.size := by omega
        go_wp2_with fail
        refine (awake_any _ hT8).mono ?_
        rintro e w9 ⟨rfl, hb9⟩
        have h159 := h15z.below hb9
        have hB9 := hB8.trans (hb9.mono hB8.size)
        clear hb9 hT8
        go_wp2_with (refine Rg.runW (by rfl) _ _ (run_load_sum _ _ _ b15 d Hd.out ⟨_, rfl, rfl⟩ h159) ?_)
        refine (HTd.out _).mono ?_
        rintro e w10 ⟨rfl, hb10⟩
        have hB10 := hB9.trans (hb10.mono hB9.size)
        go_wp2_with fail
        go_ret
        exact ⟨rfl, hB10⟩
end Sm
end Go.Proofs.YtgpnhdnncfpbcaaDoor
