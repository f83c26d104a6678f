/-
  Contracts of node.Put and of the plain answer's Put.
-/
import Derived.Test.YtoeblhdddehemaaDoorMg21
import Derived.Test.YtoeblhdddehemaaDoorMg14
namespace Go.Proofs.YtoeblhdddehemaaDoor
set_option maxRecDepth 100000
open Go.RowKit

namespace No
open Rl Ni
/-- the item of a node that may be -/
theorem item_any (N : Nd) (a : Option Addr) (n c : Nat) (hl : N.ks.length = 16) (w : World) (hB : IsBs w a n c N.p) (hm : mayW refP N = true) (hks : ∀ k ∈ N.ks, k.size ≤ 100) : Calls Tryd.prog 37 #[.agg (ndC N a n c)] w (GotIt w (itemP N)) := by
  rcases may_kinds hl hm with ⟨k1, _⟩ | ⟨k1, _⟩ | ⟨k1, _⟩
  · exact item_leaf N a n c hl w hB hm k1
  · exact item_ext N a n c hl w hB hm k1 (hks _ (by rw [List.getD_eq_getElem?_getD, List.getElem?_eq_getElem (by omega)]; exact List.getElem_mem _))
  · exact item_branch N a n c hl w k1 hks
/-- what Put tells of a node -/
def putV (N : Nd) : Value := .tuple #[.string (if mayW refP N then ⟨(putP N).toArray⟩ else eB), .int .i64 (if mayW refP N then 0 else 2)]
set_option maxHeartbeats 8000000 in
theorem nput_any (N : Nd) (a : Option Addr) (n c : Nat) (hl : N.ks.length = 16) (w : World) (hB : IsBs w a n c N.p) (hv : N.v.size ≤ maxLen) (hks : ∀ k ∈ N.ks, k.size ≤ 100) :
    Calls Tryd.prog 21 #[.agg (ndC N a n c)] w fun e w' => e = .returned (putV N) ∧ Below w.heap.size w w' := by
  obtain ⟨w2, hw2⟩ : ∃ w2, w2 = w.alloc (.cells (ndC N a n c) 45) := ⟨_, rfl⟩
  have hO : OwnN w2 w.heap.size N a n c := by rw [hw2]; exact Rg.Own.new _ _ _
  have hBe : Below w.heap.size w w2 := by rw [hw2]; exact al1 _ _
  have HC := Lib.hid (check_any N a n c hl w2 (hB.below hBe) hv (fun k hk => ref_any k (by have := hks k hk; omega)))
  have HIt : Hid (mayW refP N = true → ∀ w', Below w.heap.size w w' → Calls Tryd.prog 37 #[.agg (ndC N a n c)] w' (GotIt w' (itemP N))) := Lib.hid (fun hm w' hb => item_any N a n c hl w' (hB.below hb) hm hks)
  have HF : Hid (mayW refP N = true → Fits 0 (itemP N) ∧ (itemP N).size ≤ 4096 ∧ (itemP N).bytes.length ≤ 1099511627776) := Lib.hid (fun hm => by
    obtain ⟨f1, f2, f3, _⟩ := item_fits hl hm
    exact ⟨f1, f3, by omega⟩)
  have HO := Lib.hid hO
  have HBe := Lib.hid hBe
  have HL := Lib.hid hl
  unfold putV
  obtain ⟨M, hM⟩ : ∃ M, mayW refP N = M := ⟨_, rfl⟩
  rw [hM] at HC HIt HF ⊢
  clear hO hBe hB hks hv hl hM
  unfold putP
  obtain ⟨X, hX⟩ : ∃ X, itemP N = X := ⟨_, rfl⟩
  rw [hX] at HIt HF ⊢
  clear hX
  subst hw2
  cases M with
  | false =>
    go_enter Tryd.func21, Tryd.ntmps21
    go_wp2_with (refine Rg.run rfl _ _ (op_load_nd HO.out HL.out ?_) ?_; · exact ⟨_, rfl, rfl⟩)
    refine HC.out.mono ?_
    rintro e w3 ⟨rfl, hb3⟩
    have HB3 := Lib.hid (below_step' HBe.out hb3)
    clear hb3
    go_wp2
    go_ret2
    exact ⟨rfl, HB3.out⟩
  | true =>
    go_enter Tryd.func21, Tryd.ntmps21
    go_wp2_with (refine Rg.run rfl _ _ (op_load_nd HO.out HL.out ?_) ?_; · exact ⟨_, rfl, rfl⟩)
    refine HC.out.mono ?_
    rintro e w3 ⟨rfl, hb3⟩
    have HO3 := Lib.hid (HO.out.below hb3)
    have HB3 := Lib.hid (below_step' HBe.out hb3)
    have HI3 := Lib.hid (HIt.out (by first | rfl | trivial) w3 HB3.out)
    clear hb3 HC HIt
    go_wp2_with (refine Rg.run rfl _ _ (op_load_nd HO3.out HL.out ?_) ?_; · exact ⟨_, rfl, rfl⟩)
    refine HI3.out.mono ?_
    rintro e w4 ⟨la, ln, lc, rfl, hI, hb4⟩
    have HB4 := Lib.hid (below_step' HB3.out hb4)
    have HP4 := Lib.hid (put_any X w4 (itV X la ln lc) ⟨la, ln, lc, rfl, ItsIn.weak hI (Nat.zero_le _)⟩ (HF.out (by first | rfl | trivial)).1 (HF.out (by first | rfl | trivial)).2.1 (HF.out (by first | rfl | trivial)).2.2)
    clear hI hb4 HI3
    go_wp2_with fail
    refine HP4.out.mono ?_
    rintro e w5 ⟨rfl, hb5⟩
    have HB5 := Lib.hid (below_step' HB4.out hb5)
    clear hb5
    go_wp2
    go_ret2
    exact ⟨rfl, HB5.out⟩

/-! ### the plain answer's -/
set_option maxHeartbeats 4000000 in
theorem rtext_any (k : ByteArray) (hk : k.size ≤ 4294967286) (w : World) : Calls Tryd.prog 73 #[.string k] w fun e w' => e = .returned (.string ⟨(It.mk false k []).bytes.toArray⟩) ∧ Below w.heap.size w w' := by
  have hT := fun w => rput_any (.mk false k []) 0 w (itV (.mk false k []) none 0 0) ⟨none, 0, 0, rfl, ItsIn.nil _ _⟩ (text_fits 0 (by omega) k) (by have := text_len k (by omega); omega)
  unfold itV at hT
  dsimp only [It.l, It.s] at hT
  have HT := Lib.hid hT
  clear hT
  obtain ⟨B, hB⟩ : ∃ B, (⟨(It.mk false k []).bytes.toArray⟩ : ByteArray) = B := ⟨_, rfl⟩
  rw [hB] at HT ⊢
  clear hB
  go_enter Tryd.func73, Tryd.ntmps73
  go_wp2_with fail
  refine (HT.out _).mono ?_
  rintro e w3 ⟨rfl, hb3⟩
  have HB := Lib.hid hb3
  clear hb3
  go_wp2
  go_ret
  exact ⟨rfl, HB.out⟩
theorem refI_bytes {k : ByteArray} (h : refP k = true) (hp : plainB k = false) : (⟨(refI k).bytes.toArray⟩ : ByteArray) = k := by
  obtain ⟨x, n, hw, e, hl, hr, h32, hb, hf, _⟩ := ref_list hp h
  rw [e, hb]
set_option maxHeartbeats 4000000 in
theorem rref_any (k : ByteArray) (hk : k.size ≤ 100) (h : refP k = true) (w : World) : Calls Tryd.prog 74 #[.string k] w fun e w' => e = .returned (.string ⟨(refI k).bytes.toArray⟩) ∧ Below w.heap.size w w' := by
  have HT := Lib.hid (fun w => rtext_any k (by omega) w)
  cases hp : plainB k with
  | true =>
    rw [refI_plain hp]
    obtain ⟨B, hB⟩ : ∃ B, (⟨(It.mk false k []).bytes.toArray⟩ : ByteArray) = B := ⟨_, rfl⟩
    rw [hB] at HT ⊢
    clear hB
    rcases plain_size hp with h0 | h32
    · obtain rfl := size_zero h0
      clear h hp h0 hk
      go_enter Tryd.func74, Tryd.ntmps74
      go_wp2_with fail
      refine (HT.out _).mono ?_
      rintro e w3 ⟨rfl, hb3⟩
      have HB := Lib.hid hb3
      clear hb3
      go_wp2
      go_ret
      exact ⟨rfl, HB.out⟩
    · have hne := Ni.not_empty (s := k) (by omega)
      have hd : ((k.size : Int) == 32) = true := by simp; omega
      clear h hp hk
      go_enter Tryd.func74, Tryd.ntmps74
      go_wp2_with fail
      refine (HT.out _).mono ?_
      rintro e w3 ⟨rfl, hb3⟩
      have HB := Lib.hid hb3
      clear hb3
      go_wp2
      go_ret
      exact ⟨rfl, HB.out⟩
  | false =>
    have hns : ¬ (k.size = 0 ∨ k.size = 32) := of_decide_eq_false hp
    have hne := Ni.not_empty (s := k) (by omega)
    have hd : ((k.size : Int) == 32) = false := by simp; omega
    rw [refI_bytes h hp]
    clear h hp hns hk
    go_enter Tryd.func74, Tryd.ntmps74
    go_wp2
    go_ret
    exact ⟨rfl, Below.refl _ _⟩

/-- the bytes of the first items -/
def flatA (xs : List It) : ByteArray := ⟨((xs.map It.bytes).flatten).toArray⟩
theorem flatA_app (xs ys : List It) : flatA (xs ++ ys) = flatA xs ++ flatA ys := by
  unfold flatA
  rw [ba_app, List.map_append, List.flatten_append]
theorem flatA_one (x : It) : flatA [x] = ⟨x.bytes.toArray⟩ := by
  unfold flatA
  rw [List.map_cons, List.map_nil, List.flatten_cons, List.flatten_nil, List.append_nil]
theorem flatA_size (xs : List It) : (flatA xs).size = ((xs.map It.bytes).flatten).length := ba_size _
theorem putP_flat {N : Nd} (hl : N.ks.length = 16) (h : mayW refP N = true) : (⟨(putP N).toArray⟩ : ByteArray) = headS (flatA (itemsP N)).size true ++ flatA (itemsP N) ∧ (flatA (itemsP N)).size ≤ 1200000 := by
  have h2 := flat_le (itemsP N) 65561 (fun y hy => (items_good hl h y hy).2)
  have hfew := items_few hl
  have hm : (itemsP N).length * 65561 ≤ 17 * 65561 := Nat.mul_le_mul_right _ hfew
  refine ⟨?_, by rw [flatA_size]; omega⟩
  unfold putP itemP
  rw [bytes_list _ (by omega), flatA_size]
  unfold headS flatA
  rw [ba_app]

set_option maxHeartbeats 16000000 in
theorem rput_leaf (N : Nd) (a : Option Addr) (n c : Nat) (hl : N.ks.length = 16) (w : World) (hB : IsBs w a n c N.p) (hm : mayW refP N = true) (hkd : N.kd = 1) :
    Calls Tryd.prog 47 #[.agg (ndC N a n c)] w fun e w' => e = .returned (.string ⟨(putP N).toArray⟩) ∧ Below w.heap.size w w' := by
  obtain ⟨m1, m2, _⟩ := may_parts hm
  obtain ⟨f1, f2⟩ := putP_flat hl hm
  have hn64 : n ≤ 64 := by rw [← hB.len]; exact m1
  obtain ⟨w2, hw2⟩ : ∃ w2, w2 = w.alloc (.cells (ndC N a n c) 45) := ⟨_, rfl⟩
  have hO : OwnN w2 w.heap.size N a n c := by rw [hw2]; exact Rg.Own.new _ _ _
  have hBe : Below w.heap.size w w2 := by rw [hw2]; exact al1 _ _
  have HPk := Lib.hid (fun w' hb => rpack_any a n c N.p true m2 hn64 w' (hB.below hb))
  have HI : Hid (flatA (itemsP N) = ⟨(It.mk false ⟨(packL N.p true).toArray⟩ []).bytes.toArray⟩ ++ ⟨(It.mk false N.v []).bytes.toArray⟩) := Lib.hid (by
    unfold itemsP pathI
    rw [if_neg (by omega), if_pos hkd]
    rw [show ∀ x y : It, [x, y] = [x] ++ [y] from fun _ _ => rfl, flatA_app, flatA_one, flatA_one, hkd]
    rfl)
  obtain ⟨P, hP⟩ : ∃ P, (⟨(packL N.p true).toArray⟩ : ByteArray) = P := ⟨_, rfl⟩
  have hps : P.size ≤ 100 := by rw [← hP, packL_size, hB.len]; omega
  rw [hP] at HPk HI
  have HT1 := Lib.hid (fun w => rtext_any P (by omega) w)
  have hv2 : N.v.size ≤ 65552 := by
    rcases may_kinds hl hm with ⟨_, _, v, _⟩ | ⟨k2, _⟩ | ⟨k3, _⟩
    · exact v
    · omega
    · omega
  have HT2 := Lib.hid (fun w => rtext_any N.v (by omega) w)
  rw [HI.out] at f1 f2
  obtain ⟨T1, hT1⟩ : ∃ T1, (⟨(It.mk false P []).bytes.toArray⟩ : ByteArray) = T1 := ⟨_, rfl⟩
  obtain ⟨T2, hT2⟩ : ∃ T2, (⟨(It.mk false N.v []).bytes.toArray⟩ : ByteArray) = T2 := ⟨_, rfl⟩
  rw [hT1] at f1 f2 HT1
  rw [hT2] at f1 f2 HT2
  have hts : T1.size + T2.size ≤ 1200000 := by rw [ByteArray.size_append] at f2; exact f2
  have HSZ : Hid (¬ 9223372036854775807 < T1.size + T2.size) := Lib.hid (by omega)
  obtain ⟨X, hX⟩ : ∃ X, T1 ++ T2 = X := ⟨_, rfl⟩
  have HX := Lib.hid hX
  rw [hX] at f1 f2
  have HF := Lib.hid f1
  clear hT1 hT2 hP hX HI f1 hn64
  have HL := Lib.hid hl
  have HK := Lib.hid hkd
  have HBw := Lib.hid hBe
  have HO := Lib.hid hO
  obtain ⟨c0, c1, c2⟩ := nd_cells hO
  rw [hkd] at c0
  clear hm hl m1 m2 hB hO hBe hkd
  subst hw2
  go_enter Tryd.func47, Tryd.ntmps47
  go_wp2_with fail
  refine wp_region_noPanic ?_
  refine wp_region_held_drew (S := fun w' => OwnN w' w.heap.size N a n c ∧ Below w.heap.size w w') (by kernel_rfl) (⟨HO.out.drew, HBw.out.drew⟩) (fun hHeld => ?_)
  refine Rg.takeL (i := 0) (v := ?_) rfl (by kernel_rfl) (by kernel_rfl) (by kernel_rfl) (fun _ _ _ h => h) (Or.inl ⟨by rfl, ?_⟩) (by assumption) ?_
  rotate_left
  · (intro wz hSw; (try dsimp only at hSw); go_simp <;> with_reducible rfl)
  try simp only [Act.put, List.setIfInBounds_toArray, List.set_cons_zero, List.set_cons_succ]
  refine Rg.takeL (i := 1) (v := ?_) rfl (by kernel_rfl) (by kernel_rfl) (by kernel_rfl) (fun _ _ _ h => h) (Or.inl ⟨by rfl, ?_⟩) (by assumption) ?_
  rotate_left
  · (intro wz hSw; (have q0 := (nd_cells hSw.1).2.1; go_simp <;> with_reducible rfl))
  try simp only [Act.put, List.setIfInBounds_toArray, List.set_cons_zero, List.set_cons_succ]
  refine Rg.takeL (i := 4) (v := ?_) rfl (by kernel_rfl) (by kernel_rfl) (by kernel_rfl) (fun _ _ _ h => h) (Or.inl ⟨by rfl, ?_⟩) (by assumption) ?_
  rotate_left
  · (intro wz hSw; (try dsimp only at hSw); go_simp <;> with_reducible rfl)
  try simp only [Act.put, List.setIfInBounds_toArray, List.set_cons_zero, List.set_cons_succ]
  refine Rg.takeL (i := 5) (v := ?_) rfl (by kernel_rfl) (by kernel_rfl) (by kernel_rfl) (fun _ _ _ h => h) (Or.inl ⟨by rfl, ?_⟩) (by assumption) ?_
  rotate_left
  · (intro wz hSw; (have q0 := (nd_cells hSw.1).2.2; go_simp <;> with_reducible rfl))
  try simp only [Act.put, List.setIfInBounds_toArray, List.set_cons_zero, List.set_cons_succ]
  refine wpAnyH_ready (rs := [2]) (by kernel_rfl) (by simp) ?_
  refine Rg.readyL (i := 2) rfl (fun K hK => ?_)
  go_simp
  go_at_call 69
  (with_reducible refine (HPk.out _ hHeld.2).mono ?_)
  rintro e wx0 ⟨rfl, hbx⟩
  refine hK.out _ _ ?_ (fun hHeld => ?_)
  · exact ⟨hHeld.1.below hbx, below_step' hHeld.2 hbx⟩
  clear hK K hbx
  try simp only [Act.put, List.setIfInBounds_toArray, List.set_cons_zero, List.set_cons_succ]
  refine wpAnyH_ready (rs := [3]) (by kernel_rfl) (by simp) ?_
  refine Rg.readyL (i := 3) rfl (fun K hK => ?_)
  go_simp
  go_at_call 73
  (with_reducible refine (HT1.out _).mono ?_)
  rintro e wx1 ⟨rfl, hbx⟩
  refine hK.out _ _ ?_ (fun hHeld => ?_)
  · exact ⟨hHeld.1.below hbx, below_step' hHeld.2 hbx⟩
  clear hK K hbx
  try simp only [Act.put, List.setIfInBounds_toArray, List.set_cons_zero, List.set_cons_succ]
  refine wpAnyH_ready (rs := [6]) (by kernel_rfl) (by simp) ?_
  refine Rg.readyL (i := 6) rfl (fun K hK => ?_)
  go_simp
  go_at_call 73
  (with_reducible refine (HT2.out _).mono ?_)
  rintro e wx2 ⟨rfl, hbx⟩
  refine hK.out _ _ ?_ (fun hHeld => ?_)
  · exact ⟨hHeld.1.below hbx, below_step' hHeld.2 hbx⟩
  clear hK K hbx
  try simp only [Act.put, List.setIfInBounds_toArray, List.set_cons_zero, List.set_cons_succ]
  refine Rg.takeL (i := 7) (v := ?_) rfl (by kernel_rfl) (by kernel_rfl) (by kernel_rfl) (fun _ _ _ h => h) (Or.inl ⟨by rfl, ?_⟩) (by assumption) ?_
  rotate_left
  · (intro wz hSw; (have q0 := HSZ.out; go_simp <;> with_reducible rfl))
  try simp only [Act.put, List.setIfInBounds_toArray, List.set_cons_zero, List.set_cons_succ]
  refine Rg.takeL (i := 8) (v := ?_) rfl (by kernel_rfl) (by kernel_rfl) (by kernel_rfl) (fun _ _ _ h => h) (Or.inl ⟨by rfl, ?_⟩) (by assumption) ?_
  rotate_left
  · (intro wz hSw; (try dsimp only at hSw); go_simp <;> with_reducible rfl)
  try simp only [Act.put, List.setIfInBounds_toArray, List.set_cons_zero, List.set_cons_succ]
  refine wpAnyH_done (by kernel_rfl) ?_ _
  refine NoPanic.normal ?_
  rw [HX.out]
  obtain ⟨c0, c1, c2⟩ := nd_cells hHeld.1
  rw [HK.out] at c0
  have HB8 := Lib.hid hHeld.2
  clear hHeld
  have hsz9 : (headS X.size true).size ≤ 9 := by unfold headS; rw [ba_size]; exact headL_le _ _ (by omega)
  have HHd := Lib.hid (rhead_any X.size (by omega) true)
  go_wp2_with fail
  refine (HHd.out _).mono ?_
  rintro e w9 ⟨rfl, hb9⟩
  have HB9 := Lib.hid (below_step' HB8.out hb9)
  clear hb9
  go_wp2
  go_ret
  exact ⟨by rw [HF.out]; rfl, HB9.out⟩

set_option maxHeartbeats 16000000 in
theorem rput_ext (N : Nd) (a : Option Addr) (n c : Nat) (hl : N.ks.length = 16) (w : World) (hB : IsBs w a n c N.p) (hm : mayW refP N = true) (hkd : N.kd = 2) :
    Calls Tryd.prog 47 #[.agg (ndC N a n c)] w fun e w' => e = .returned (.string ⟨(putP N).toArray⟩) ∧ Below w.heap.size w w' := by
  obtain ⟨m1, m2, _⟩ := may_parts hm
  obtain ⟨f1, f2⟩ := putP_flat hl hm
  have hn64 : n ≤ 64 := by rw [← hB.len]; exact m1
  obtain ⟨w2, hw2⟩ : ∃ w2, w2 = w.alloc (.cells (ndC N a n c) 45) := ⟨_, rfl⟩
  have hO : OwnN w2 w.heap.size N a n c := by rw [hw2]; exact Rg.Own.new _ _ _
  have hBe : Below w.heap.size w w2 := by rw [hw2]; exact al1 _ _
  have HPk := Lib.hid (fun w' hb => rpack_any a n c N.p false m2 hn64 w' (hB.below hb))
  have HI : Hid (flatA (itemsP N) = ⟨(It.mk false ⟨(packL N.p false).toArray⟩ []).bytes.toArray⟩ ++ ⟨(refI (N.ks.getD 0 eB)).bytes.toArray⟩) := Lib.hid (by
    unfold itemsP pathI
    rw [if_neg (by omega), if_neg (by omega)]
    rw [show ∀ x y : It, [x, y] = [x] ++ [y] from fun _ _ => rfl, flatA_app, flatA_one, flatA_one, hkd]
    rfl)
  obtain ⟨P, hP⟩ : ∃ P, (⟨(packL N.p false).toArray⟩ : ByteArray) = P := ⟨_, rfl⟩
  have hps : P.size ≤ 100 := by rw [← hP, packL_size, hB.len]; omega
  rw [hP] at HPk HI
  have HT1 := Lib.hid (fun w => rtext_any P (by omega) w)
  have hr : refP (N.ks.getD 0 eB) = true := by
    rcases may_kinds hl hm with ⟨k1, _⟩ | ⟨_, _, _, _, _, r⟩ | ⟨k3, _⟩
    · omega
    · exact r
    · omega
  obtain ⟨k, hk⟩ : ∃ k, N.ks.getD 0 eB = k := ⟨_, rfl⟩
  rw [hk] at hr HI
  have HCk : Hid (∀ wz, OwnN wz w.heap.size N a n c → wz.cell? ⟨w.heap.size, 3, none⟩ = some (.string k)) := Lib.hid (fun wz h => by rw [← hk]; exact nd_kid h hl 0 (by decide))
  have hks : k.size ≤ 100 := by
    cases hp : plainB k with
    | true => have := plain_size hp; omega
    | false => obtain ⟨_, _, _, _, _, _, h, _⟩ := ref_list hp hr; omega
  have HT2 := Lib.hid (fun w => rref_any k hks hr w)
  clear hk hr hks
  rw [HI.out] at f1 f2
  obtain ⟨T1, hT1⟩ : ∃ T1, (⟨(It.mk false P []).bytes.toArray⟩ : ByteArray) = T1 := ⟨_, rfl⟩
  obtain ⟨T2, hT2⟩ : ∃ T2, (⟨(refI k).bytes.toArray⟩ : ByteArray) = T2 := ⟨_, rfl⟩
  rw [hT1] at f1 f2 HT1
  rw [hT2] at f1 f2 HT2
  have hts : T1.size + T2.size ≤ 1200000 := by rw [ByteArray.size_append] at f2; exact f2
  have HSZ : Hid (¬ 9223372036854775807 < T1.size + T2.size) := Lib.hid (by omega)
  obtain ⟨X, hX⟩ : ∃ X, T1 ++ T2 = X := ⟨_, rfl⟩
  have HX := Lib.hid hX
  rw [hX] at f1 f2
  have HF := Lib.hid f1
  clear hT1 hT2 hP hX HI f1 hn64
  have HL := Lib.hid hl
  have HK := Lib.hid hkd
  have HBw := Lib.hid hBe
  have HO := Lib.hid hO
  obtain ⟨c0, c1, c2⟩ := nd_cells hO
  rw [hkd] at c0
  clear hm hl m1 m2 hB hO hBe hkd
  subst hw2
  go_enter Tryd.func47, Tryd.ntmps47
  go_wp2_with fail
  refine wp_region_noPanic ?_
  refine wp_region_held_drew (S := fun w' => OwnN w' w.heap.size N a n c ∧ Below w.heap.size w w') (by kernel_rfl) (⟨HO.out.drew, HBw.out.drew⟩) (fun hHeld => ?_)
  refine Rg.takeL (i := 0) (v := ?_) rfl (by kernel_rfl) (by kernel_rfl) (by kernel_rfl) (fun _ _ _ h => h) (Or.inl ⟨by rfl, ?_⟩) (by assumption) ?_
  rotate_left
  · (intro wz hSw; (try dsimp only at hSw); go_simp <;> with_reducible rfl)
  try simp only [Act.put, List.setIfInBounds_toArray, List.set_cons_zero, List.set_cons_succ]
  refine Rg.takeL (i := 1) (v := ?_) rfl (by kernel_rfl) (by kernel_rfl) (by kernel_rfl) (fun _ _ _ h => h) (Or.inl ⟨by rfl, ?_⟩) (by assumption) ?_
  rotate_left
  · (intro wz hSw; (have q0 := (nd_cells hSw.1).2.1; go_simp <;> with_reducible rfl))
  try simp only [Act.put, List.setIfInBounds_toArray, List.set_cons_zero, List.set_cons_succ]
  refine Rg.takeL (i := 4) (v := ?_) rfl (by kernel_rfl) (by kernel_rfl) (by kernel_rfl) (fun _ _ _ h => h) (Or.inl ⟨by rfl, ?_⟩) (by assumption) ?_
  rotate_left
  · (intro wz hSw; (try dsimp only at hSw); go_simp <;> with_reducible rfl)
  try simp only [Act.put, List.setIfInBounds_toArray, List.set_cons_zero, List.set_cons_succ]
  refine Rg.takeL (i := 5) (v := ?_) rfl (by kernel_rfl) (by kernel_rfl) (by kernel_rfl) (fun _ _ _ h => h) (Or.inl ⟨by rfl, ?_⟩) (by assumption) ?_
  rotate_left
  · (intro wz hSw; (try dsimp only at hSw); go_simp <;> with_reducible rfl)
  try simp only [Act.put, List.setIfInBounds_toArray, List.set_cons_zero, List.set_cons_succ]
  refine Rg.takeL (i := 6) (v := ?_) rfl (by kernel_rfl) (by kernel_rfl) (by kernel_rfl) (fun _ _ _ h => h) (Or.inl ⟨by rfl, ?_⟩) (by assumption) ?_
  rotate_left
  · (intro wz hSw; (have q0 := HCk.out wz hSw.1; go_simp <;> with_reducible rfl))
  try simp only [Act.put, List.setIfInBounds_toArray, List.set_cons_zero, List.set_cons_succ]
  refine wpAnyH_ready (rs := [2]) (by kernel_rfl) (by simp) ?_
  refine Rg.readyL (i := 2) rfl (fun K hK => ?_)
  go_simp
  go_at_call 69
  (with_reducible refine (HPk.out _ hHeld.2).mono ?_)
  rintro e wx0 ⟨rfl, hbx⟩
  refine hK.out _ _ ?_ (fun hHeld => ?_)
  · exact ⟨hHeld.1.below hbx, below_step' hHeld.2 hbx⟩
  clear hK K hbx
  try simp only [Act.put, List.setIfInBounds_toArray, List.set_cons_zero, List.set_cons_succ]
  refine wpAnyH_ready (rs := [3]) (by kernel_rfl) (by simp) ?_
  refine Rg.readyL (i := 3) rfl (fun K hK => ?_)
  go_simp
  go_at_call 73
  (with_reducible refine (HT1.out _).mono ?_)
  rintro e wx1 ⟨rfl, hbx⟩
  refine hK.out _ _ ?_ (fun hHeld => ?_)
  · exact ⟨hHeld.1.below hbx, below_step' hHeld.2 hbx⟩
  clear hK K hbx
  try simp only [Act.put, List.setIfInBounds_toArray, List.set_cons_zero, List.set_cons_succ]
  refine wpAnyH_ready (rs := [7]) (by kernel_rfl) (by simp) ?_
  refine Rg.readyL (i := 7) rfl (fun K hK => ?_)
  go_simp
  go_at_call 74
  (with_reducible refine (HT2.out _).mono ?_)
  rintro e wx2 ⟨rfl, hbx⟩
  refine hK.out _ _ ?_ (fun hHeld => ?_)
  · exact ⟨hHeld.1.below hbx, below_step' hHeld.2 hbx⟩
  clear hK K hbx
  try simp only [Act.put, List.setIfInBounds_toArray, List.set_cons_zero, List.set_cons_succ]
  refine Rg.takeL (i := 8) (v := ?_) rfl (by kernel_rfl) (by kernel_rfl) (by kernel_rfl) (fun _ _ _ h => h) (Or.inl ⟨by rfl, ?_⟩) (by assumption) ?_
  rotate_left
  · (intro wz hSw; (have q0 := HSZ.out; go_simp <;> with_reducible rfl))
  try simp only [Act.put, List.setIfInBounds_toArray, List.set_cons_zero, List.set_cons_succ]
  refine Rg.takeL (i := 9) (v := ?_) rfl (by kernel_rfl) (by kernel_rfl) (by kernel_rfl) (fun _ _ _ h => h) (Or.inl ⟨by rfl, ?_⟩) (by assumption) ?_
  rotate_left
  · (intro wz hSw; (try dsimp only at hSw); go_simp <;> with_reducible rfl)
  try simp only [Act.put, List.setIfInBounds_toArray, List.set_cons_zero, List.set_cons_succ]
  refine wpAnyH_done (by kernel_rfl) ?_ _
  refine NoPanic.normal ?_
  rw [HX.out]
  obtain ⟨c0, c1, c2⟩ := nd_cells hHeld.1
  rw [HK.out] at c0
  have HB8 := Lib.hid hHeld.2
  clear hHeld
  have hsz9 : (headS X.size true).size ≤ 9 := by unfold headS; rw [ba_size]; exact headL_le _ _ (by omega)
  have HHd := Lib.hid (rhead_any X.size (by omega) true)
  go_wp2_with fail
  refine (HHd.out _).mono ?_
  rintro e w9 ⟨rfl, hb9⟩
  have HB9 := Lib.hid (below_step' HB8.out hb9)
  clear hb9
  go_wp2
  go_ret
  exact ⟨by rw [HF.out]; rfl, HB9.out⟩
end No
end Go.Proofs.YtoeblhdddehemaaDoor

/-
  The plain answer's Put of a branch; of any node that may be.
-/
namespace Go.Proofs.YtoeblhdddehemaaDoor
set_option maxRecDepth 100000
open Go.RowKit

namespace No
open Rl Ni

theorem first_step (ks : List ByteArray) (j : Nat) (hj : j < ks.length) : flatA ((ks.take (j + 1)).map refI) = flatA ((ks.take j).map refI) ++ ⟨(refI (ks.getD j eB)).bytes.toArray⟩ := by
  have e : ks.getD j eB = ks[j] := by simp [List.getD, hj]
  rw [List.take_succ_eq_append_getElem hj, List.map_append, flatA_app, List.map_cons, List.map_nil, flatA_one, e]
theorem first_few (ks : List ByteArray) (hr : ∀ k ∈ ks, refP k = true) (j : Nat) (hj : j ≤ 16) : (flatA ((ks.take j).map refI)).size ≤ 656 := by
  rw [flatA_size]
  have := flat_le ((ks.take j).map refI) 41 (fun y hy => by
    obtain ⟨k, hk, rfl⟩ := List.mem_map.1 hy
    exact (refI_fits (hr k (List.mem_of_mem_take hk))).2)
  have h2 : ((ks.take j).map refI).length * 41 ≤ 16 * 41 := Nat.mul_le_mul_right _ (by rw [List.length_map, List.length_take]; omega)
  omega
theorem nil_bytes : (⟨(It.mk false ⟨#[]⟩ []).bytes.toArray⟩ : ByteArray) = ⟨#[128]⟩ := by
  rw [bytes_text ⟨#[]⟩ (by decide)]
  rfl

set_option maxHeartbeats 16000000 in
theorem rput_branch (N : Nd) (a : Option Addr) (n c : Nat) (hl : N.ks.length = 16) (w : World) (hB : IsBs w a n c N.p) (hm : mayW refP N = true) (hkd : N.kd = 3) :
    Calls Tryd.prog 47 #[.agg (ndC N a n c)] w fun e w' => e = .returned (.string ⟨(putP N).toArray⟩) ∧ Below w.heap.size w w' := by
  obtain ⟨m1, m2, _⟩ := may_parts hm
  obtain ⟨f1, f2⟩ := putP_flat hl hm
  have hn64 : n ≤ 64 := by rw [← hB.len]; exact m1
  obtain ⟨w2, hw2⟩ : ∃ w2, w2 = w.alloc (.cells (ndC N a n c) 45) := ⟨_, rfl⟩
  have hO : OwnN w2 w.heap.size N a n c := by rw [hw2]; exact Rg.Own.new _ _ _
  have hBe : Below w.heap.size w w2 := by rw [hw2]; exact al1 _ _
  have HPk := Lib.hid (fun w' hb => rpack_any a n c N.p true m2 hn64 w' (hB.below hb))
  have hr : ∀ k ∈ N.ks, refP k = true := by
    rcases may_kinds hl hm with ⟨k1, _⟩ | ⟨k2, _⟩ | ⟨_, _, _, _, r⟩
    · omega
    · omega
    · exact r
  have HI : Hid (flatA (itemsP N) = flatA ((N.ks.take 16).map refI) ++ ⟨#[128]⟩) := Lib.hid (by
    unfold itemsP
    rw [if_pos hkd, flatA_app, flatA_one, List.take_of_length_le (by omega)]
    show _ ++ (⟨(It.mk false ⟨#[]⟩ []).bytes.toArray⟩ : ByteArray) = _
    rw [nil_bytes])
  have HRf : Hid (∀ j, j < 16 → ∀ w, Calls Tryd.prog 74 #[.string (N.ks.getD j eB)] w fun e w' => e = .returned (.string ⟨(refI (N.ks.getD j eB)).bytes.toArray⟩) ∧ Below w.heap.size w w') := Lib.hid (fun j hj w => by
    have hmem : N.ks.getD j eB ∈ N.ks := by rw [List.getD_eq_getElem?_getD, List.getElem?_eq_getElem (by omega)]; exact List.getElem_mem _
    refine rref_any _ ?_ (hr _ hmem) w
    cases hp : plainB (N.ks.getD j eB) with
    | true => have := plain_size hp; omega
    | false => obtain ⟨_, _, _, _, _, _, h, _⟩ := ref_list hp (hr _ hmem); omega)
  have HFs : Hid (∀ j, j < 16 → flatA ((N.ks.take (j + 1)).map refI) = flatA ((N.ks.take j).map refI) ++ ⟨(refI (N.ks.getD j eB)).bytes.toArray⟩) := Lib.hid (fun j hj => first_step N.ks j (by omega))
  have HFw : Hid (∀ j, j ≤ 16 → (flatA ((N.ks.take j).map refI)).size ≤ 656) := Lib.hid (fun j hj => first_few N.ks hr j hj)
  have HFF : Hid (_ ∧ _) := Lib.hid ⟨f1, f2⟩
  clear hr f1 f2
  have HL := Lib.hid hl
  have HK := Lib.hid hkd
  have HBw := Lib.hid hBe
  have HO := Lib.hid hO
  obtain ⟨c0, c1, c2⟩ := nd_cells hO
  rw [hkd] at c0
  clear hm hl m1 m2 hB hO hBe hkd
  subst hw2
  go_enter Tryd.func47, Tryd.ntmps47
  go_wp2_with fail
  go_loopw [3, 4] (fun s i wr => ∃ (j : Nat) (T : ByteArray), j ≤ 16 ∧ i = .int .i64 j ∧ s = .string T ∧ T.size ≤ 656 ∧ Hid (flatA ((N.ks.take j).map refI) = T) ∧ Hid (OwnN wr w.heap.size N a n c) ∧ Hid (Below w.heap.size w wr)) (fun _ i _ => 16 - (intOf i).toNat)
  case atStart => exact ⟨0, ⟨#[]⟩, Nat.zero_le _, rfl, rfl, by decide, Lib.hid rfl, HO, HBw⟩
  case round =>
    obtain ⟨j, T, hj, rfl, rfl, hT, HT, HN, HB⟩ := hrel
    clear HO HBw c0 c1 c2
    by_cases hlt : j < 16
    · have HR := Lib.hid (fun w => HRf.out j hlt w)
      have HS := Lib.hid (HFs.out j hlt)
      have HW := HFw.out (j + 1) (by omega)
      have hc := nd_kid HN.out HL.out j hlt
      have HS2 : Hid (flatA ((N.ks.take (j + 1)).map refI) = T ++ ⟨(refI (N.ks.getD j eB)).bytes.toArray⟩) := Lib.hid (by rw [HS.out, HT.out])
      rw [HS2.out] at HW
      obtain ⟨k, hk⟩ : ∃ k, N.ks.getD j eB = k := ⟨_, rfl⟩
      rw [hk] at hc HR HW HS2
      obtain ⟨U, hU⟩ : ∃ U, (⟨(refI k).bytes.toArray⟩ : ByteArray) = U := ⟨_, rfl⟩
      rw [hU] at HR HW HS2
      have hsz : T.size + U.size ≤ 656 := by rw [ByteArray.size_append] at HW; exact HW
      clear hk hU HS HT HRf HFs HFw
      go_wp2_with fail
      refine (HR.out _).mono ?_
      rintro e w5 ⟨rfl, hb5⟩
      have HN5 := Lib.hid (HN.out.below hb5)
      have HB5 := Lib.hid (below_step' HB.out hb5)
      clear hb5 HN HB hc
      go_wp2
      go_roundw
      case rel => exact ⟨j + 1, T ++ U, by omega, by go_num, rfl, HW, HS2, HN5, HB5⟩
      case measure => simp [intOf]; omega
    · obtain rfl : j = 16 := by omega
      obtain ⟨f1, f2⟩ := HFF.out
      rw [HI.out, HT.out] at f1 f2
      obtain ⟨X, hX⟩ : ∃ X, T ++ ⟨#[128]⟩ = X := ⟨_, rfl⟩
      rw [hX] at f1 f2
      have HF := Lib.hid f1
      have hsz : T.size + (⟨#[128]⟩ : ByteArray).size ≤ 1200000 := by rw [← ByteArray.size_append, hX]; exact f2
      have hone : (⟨#[128]⟩ : ByteArray).size = 1 := rfl
      rw [hone] at hsz
      have HXe := Lib.hid hX
      have hsz9 : (headS X.size true).size ≤ 9 := by unfold headS; rw [ba_size]; exact headL_le _ _ (by omega)
      have hXs : (X.size : Int) = (T.size : Int) + 1 := by rw [← hX, ByteArray.size_append, hone]; rfl
      have hHd := rhead_any X.size (by omega) true
      rw [hXs] at hHd
      have HHd := Lib.hid hHd
      clear hHd hXs
      have h12 := f2
      rw [← hX] at h12
      obtain ⟨c0, c1, c2⟩ := nd_cells HN.out
      rw [HK.out] at c0
      clear f1 hX HFF HI HRf HFs HFw
      go_wp2_with fail
      rw [HXe.out]
      with_reducible refine (HHd.out _).mono ?_
      rintro e w9 ⟨rfl, hb9⟩
      have HB9 := Lib.hid (below_step' HB.out hb9)
      clear hb9
      go_wp2
      go_ret
      exact ⟨by rw [HF.out]; rfl, HB9.out⟩

/-- the plain answer's Put of a node that may be -/
theorem rput_of (N : Nd) (a : Option Addr) (n c : Nat) (hl : N.ks.length = 16) (w : World) (hB : IsBs w a n c N.p) (hm : mayW refP N = true) :
    Calls Tryd.prog 47 #[.agg (ndC N a n c)] w fun e w' => e = .returned (.string ⟨(putP N).toArray⟩) ∧ Below w.heap.size w w' := by
  rcases may_kinds hl hm with ⟨k1, _⟩ | ⟨k1, _⟩ | ⟨k1, _⟩
  · exact rput_leaf N a n c hl w hB hm k1
  · exact rput_ext N a n c hl w hB hm k1
  · exact rput_branch N a n c hl w hB hm k1
end No
end Go.Proofs.YtoeblhdddehemaaDoor
