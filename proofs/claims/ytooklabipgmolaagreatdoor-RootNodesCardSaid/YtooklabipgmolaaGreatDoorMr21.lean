/-
 Contracts of node.Put and of the plain answer's Put.
-/
import Derived.Test.YtooklabipgmolaaGreatDoorMr20
import Derived.Test.YtooklabipgmolaaGreatDoorMr8
import Derived.Test.YtooklabipgmolaaGreatDoorMr19
import Derived.Test.YtooklabipgmolaaGreatDoorMr18
import Derived.Test.YtooklabipgmolaaGreatDoorMr15
open Go.Lib (hid)
set_option linter.unusedSimpArgs false
set_option linter.unusedVariables false
set_option maxHeartbeats 40000000
set_option maxRecDepth 100000
namespace Go.Proofs.YtooklabipgmolaaGreatDoor
section
open Go.RowKit
namespace No
open Rl Ni
theorem item_any (N : Nd) (a : Option Addr) (n c : Nat) (hl : N.ks.length = 16) (w : World) (hB : IsBs w a n c N.p) (hm : mayW refP N = true) (hks : ∀ k ∈ N.ks, k.size ≤ 100) : Calls Tryz.prog 76 #[.agg (ndC N a n c)] w (GotIt w (itemP N)) := by
 rcases may_kinds hl hm with ⟨k1, _⟩ | ⟨k1, _⟩ | ⟨k1, _⟩
 ·exact item_leaf N a n c hl w hB hm k1
 ·exact item_ext N a n c hl w hB hm k1 (hks _ (by rw [List.getD_eq_getElem?_getD, List.getElem?_eq_getElem (by omega)]; exact List.getElem_mem _))
 ·exact item_branch N a n c hl w k1 hks
def putV (N : Nd) : Value := .tuple #[.string (if mayW refP N then ⟨(putP N).toArray⟩ else eB), .int .i64 (if mayW refP N then 0 else 2)]
theorem nput_any (N : Nd) (a : Option Addr) (n c : Nat) (hl : N.ks.length = 16) (w : World) (hB : IsBs w a n c N.p) (hv : N.v.size ≤ maxLen) (hks : ∀ k ∈ N.ks, k.size ≤ 100) :
  Calls Tryz.prog 51 #[.agg (ndC N a n c)] w fun e w' => e = .returned (putV N) ∧ Below w.heap.size w w' := by
 obtain ⟨w2, hw2⟩ : ∃ w2, w2 = w.alloc (.cells (ndC N a n c) 57) := ⟨_, rfl⟩
 have hO : OwnN w2 w.heap.size N a n c := by rw [hw2]; exact Rg.Own.new _ _ _
 have hBe : Below w.heap.size w w2 := by rw [hw2]; exact al1 _ _
 have HC := hid (check_any N a n c hl w2 (hB.below hBe) hv (fun k hk => ref_any k (by have := hks k hk; omega)))
 have HIt : Hid (mayW refP N = true → ∀ w', Below w.heap.size w w' → Calls Tryz.prog 76 #[.agg (ndC N a n c)] w' (GotIt w' (itemP N))) := hid (fun hm w' hb => item_any N a n c hl w' (hB.below hb) hm hks)
 have HF : Hid (mayW refP N = true → Fits 0 (itemP N) ∧ (itemP N).size ≤ 4096 ∧ (itemP N).bytes.length ≤ 1099511627776) := hid (fun hm => by
  obtain ⟨f1, f2, f3, _⟩ := item_fits hl hm
  exact ⟨f1, f3, by omega⟩)
 have HO := hid hO
 have HBe := hid hBe
 have HL := hid hl
 unfold putV
 obtain ⟨M, hM⟩ : ∃ M, mayW refP N = M := ⟨_, rfl⟩
 rw [hM] at HC HIt HF ⊢
 clear hO hBe hB hks hv hl hM
 unfold putP
 obtain ⟨X, hX⟩ : ∃ X, itemP N = X := ⟨_, rfl⟩
 rw [hX] at HIt HF ⊢
 clear hX
 subst hw2
 cases M with
 | false =>
  go_enter Tryz.func51, Tryz.ntmps51
  go_wp2_with (refine Rg.run rfl _ _ (op_load_nd HO.out HL.out ?_) ?_; · exact ⟨_, rfl, rfl⟩)
  refine HC.out.mono ?_
  rintro e w3 ⟨rfl, hb3⟩
  have HB3 := hid (bst HBe.out hb3)
  clear hb3
  go_wp2
  go_ret2
  exact ⟨rfl, HB3.out⟩
 | true =>
  go_enter Tryz.func51, Tryz.ntmps51
  go_wp2_with (refine Rg.run rfl _ _ (op_load_nd HO.out HL.out ?_) ?_; · exact ⟨_, rfl, rfl⟩)
  refine HC.out.mono ?_
  rintro e w3 ⟨rfl, hb3⟩
  have HO3 := hid (HO.out.below hb3)
  have HB3 := hid (bst HBe.out hb3)
  have HI3 := hid (HIt.out (by first | rfl | trivial) w3 HB3.out)
  clear hb3 HC HIt
  go_wp2_with (refine Rg.run rfl _ _ (op_load_nd HO3.out HL.out ?_) ?_; · exact ⟨_, rfl, rfl⟩)
  refine HI3.out.mono ?_
  rintro e w4 ⟨la, ln, lc, rfl, hI, hb4⟩
  have HB4 := hid (bst HB3.out hb4)
  have HP4 := hid (put_any X w4 (itV X la ln lc) ⟨la, ln, lc, rfl, ItsIn.weak hI (Nat.zero_le _)⟩ (HF.out (by first | rfl | trivial)).1 (HF.out (by first | rfl | trivial)).2.1 (HF.out (by first | rfl | trivial)).2.2)
  clear hI hb4 HI3
  go_wp2_with fail
  refine HP4.out.mono ?_
  rintro e w5 ⟨rfl, hb5⟩
  have HB5 := hid (bst HB4.out hb5)
  clear hb5
  go_wp2
  go_ret2
  exact ⟨rfl, HB5.out⟩
theorem rtext_any (k : ByteArray) (hk : k.size ≤ 4294967286) (w : World) : Calls Tryz.prog 41 #[.string k] w fun e w' => e = .returned (.string ⟨(It.mk false k []).bytes.toArray⟩) ∧ Below w.heap.size w w' := by
 have hT := fun w => rput_any (.mk false k []) 0 w (itV (.mk false k []) none 0 0) ⟨none, 0, 0, rfl, ItsIn.nil _ _⟩ (text_fits 0 (by omega) k) (by have := text_len k (by omega); omega)
 unfold itV at hT
 dsimp only [It.l, It.s] at hT
 have HT := hid hT
 clear hT
 obtain ⟨B, hB⟩ : ∃ B, (⟨(It.mk false k []).bytes.toArray⟩ : ByteArray) = B := ⟨_, rfl⟩
 rw [hB] at HT ⊢
 clear hB
 go_enter Tryz.func41, Tryz.ntmps41
 go_wp2_with fail
 refine (HT.out _).mono ?_
 rintro e w3 ⟨rfl, hb3⟩
 have HB := hid hb3
 clear hb3
 go_wp2
 go_ret
 exact ⟨rfl, HB.out⟩
theorem refI_bytes {k : ByteArray} (h : refP k = true) (hp : plainB k = false) : (⟨(refI k).bytes.toArray⟩ : ByteArray) = k := by
 obtain ⟨x, n, hw, e, hl, hr, h32, hb, hf, _⟩ := ref_list hp h
 rw [e, hb]
theorem rref_any (k : ByteArray) (hk : k.size ≤ 100) (h : refP k = true) (w : World) : Calls Tryz.prog 43 #[.string k] w fun e w' => e = .returned (.string ⟨(refI k).bytes.toArray⟩) ∧ Below w.heap.size w w' := by
 have HT := hid (fun w => rtext_any k (by omega) w)
 cases hp : plainB k with
 | true =>
  rw [refI_plain hp]
  obtain ⟨B, hB⟩ : ∃ B, (⟨(It.mk false k []).bytes.toArray⟩ : ByteArray) = B := ⟨_, rfl⟩
  rw [hB] at HT ⊢
  clear hB
  rcases plain_size hp with h0 | h32
  ·obtain rfl := size_zero h0
   clear h hp h0 hk
   go_enter Tryz.func43, Tryz.ntmps43
   go_wp2_with fail
   refine (HT.out _).mono ?_
   rintro e w3 ⟨rfl, hb3⟩
   have HB := hid hb3
   clear hb3
   go_wp2
   go_ret
   exact ⟨rfl, HB.out⟩
  ·have hne := Ni.not_empty (s := k) (by omega)
   have hd : ((k.size : Int) == 32) = true := by simp; omega
   clear h hp hk
   go_enter Tryz.func43, Tryz.ntmps43
   go_wp2_with fail
   refine (HT.out _).mono ?_
   rintro e w3 ⟨rfl, hb3⟩
   have HB := hid hb3
   clear hb3
   go_wp2
   go_ret
   exact ⟨rfl, HB.out⟩
 | false =>
  have hns : ¬ (k.size = 0 ∨ k.size = 32) := of_decide_eq_false hp
  have hne := Ni.not_empty (s := k) (by omega)
  have hd : ((k.size : Int) == 32) = false := by simp; omega
  rw [refI_bytes h hp]
  clear h hp hns hk
  go_enter Tryz.func43, Tryz.ntmps43
  go_wp2
  go_ret
  exact ⟨rfl, Below.refl _ _⟩
def flatA (xs : List It) : ByteArray := ⟨((xs.map It.bytes).flatten).toArray⟩
theorem flatA_app (xs ys : List It) : flatA (xs ++ ys) = flatA xs ++ flatA ys := by
 unfold flatA
 rw [ba_app, List.map_append, List.flatten_append]
theorem flatA_one (x : It) : flatA [x] = ⟨x.bytes.toArray⟩ := by
 unfold flatA
 rw [List.map_cons, List.map_nil, List.flatten_cons, List.flatten_nil, List.append_nil]
theorem flatA_size (xs : List It) : (flatA xs).size = ((xs.map It.bytes).flatten).length := ba_size _
theorem putP_flat {N : Nd} (hl : N.ks.length = 16) (h : mayW refP N = true) : (⟨(putP N).toArray⟩ : ByteArray) = headS (flatA (itemsP N)).size true ++ flatA (itemsP N) ∧ (flatA (itemsP N)).size ≤ 1200000 := by
 have h2 := flat_le (itemsP N) 65561 (fun y hy => (items_good hl h y hy).2)
 have hfew := items_few hl
 have hm : (itemsP N).length * 65561 ≤ 17 * 65561 := Nat.mul_le_mul_right _ hfew
 refine ⟨?_, by rw [flatA_size]; omega⟩
 unfold putP itemP
 rw [bytes_list _ (by omega), flatA_size]
 unfold headS flatA
 rw [ba_app]
theorem rput_leaf (N : Nd) (a : Option Addr) (n c : Nat) (hl : N.ks.length = 16) (w : World) (hB : IsBs w a n c N.p) (hm : mayW refP N = true) (hkd : N.kd = 1) :
  Calls Tryz.prog 22 #[.agg (ndC N a n c)] w fun e w' => e = .returned (.string ⟨(putP N).toArray⟩) ∧ Below w.heap.size w w' := by
 obtain ⟨m1, m2, _⟩ := may_parts hm
 obtain ⟨f1, f2⟩ := putP_flat hl hm
 have hn64 : n ≤ 64 := by rw [← hB.len]; exact m1
 obtain ⟨w2, hw2⟩ : ∃ w2, w2 = w.alloc (.cells (ndC N a n c) 57) := ⟨_, rfl⟩
 have hO : OwnN w2 w.heap.size N a n c := by rw [hw2]; exact Rg.Own.new _ _ _
 have hBe : Below w.heap.size w w2 := by rw [hw2]; exact al1 _ _
 have HPk := hid (fun w' hb => rpack_any a n c N.p true m2 hn64 w' (hB.below hb))
 have HI : Hid (flatA (itemsP N) = ⟨(It.mk false ⟨(packL N.p true).toArray⟩ []).bytes.toArray⟩ ++ ⟨(It.mk false N.v []).bytes.toArray⟩) := hid (by
  unfold itemsP pathI
  rw [if_neg (by omega), if_pos hkd]
  rw [show ∀ x y : It, [x, y] = [x] ++ [y] from fun _ _ => rfl, flatA_app, flatA_one, flatA_one, hkd]
  rfl)
 obtain ⟨P, hP⟩ : ∃ P, (⟨(packL N.p true).toArray⟩ : ByteArray) = P := ⟨_, rfl⟩
 have hps : P.size ≤ 100 := by rw [← hP, packL_size, hB.len]; omega
 rw [hP] at HPk HI
 have HT1 := hid (fun w => rtext_any P (by omega) w)
 have hv2 : N.v.size ≤ 65552 := by
  rcases may_kinds hl hm with ⟨_, _, v, _⟩ | ⟨k2, _⟩ | ⟨k3, _⟩
  ·exact v
  ·omega
  ·omega
 have HT2 := hid (fun w => rtext_any N.v (by omega) w)
 rw [HI.out] at f1 f2
 obtain ⟨T1, hT1⟩ : ∃ T1, (⟨(It.mk false P []).bytes.toArray⟩ : ByteArray) = T1 := ⟨_, rfl⟩
 obtain ⟨T2, hT2⟩ : ∃ T2, (⟨(It.mk false N.v []).bytes.toArray⟩ : ByteArray) = T2 := ⟨_, rfl⟩
 rw [hT1] at f1 f2 HT1
 rw [hT2] at f1 f2 HT2
 have hts : T1.size + T2.size ≤ 1200000 := by rw [ByteArray.size_append] at f2; exact f2
 have HSZ : Hid (¬ 9223372036854775807 < T1.size + T2.size) := hid (by omega)
 obtain ⟨X, hX⟩ : ∃ X, T1 ++ T2 = X := ⟨_, rfl⟩
 have HX := hid hX
 rw [hX] at f1 f2
 have HF := hid f1
 clear hT1 hT2 hP hX HI f1 hn64
 have HL := hid hl
 have HK := hid hkd
 have HBw := hid hBe
 have HO := hid hO
 obtain ⟨c0, c1, c2⟩ := nd_cells hO
 rw [hkd] at c0
 clear hm hl m1 m2 hB hO hBe hkd
 subst hw2
 go_enter Tryz.func22, Tryz.ntmps22
 go_wp2_with fail
 refine wp_region_noPanic ?_
 refine wp_region_held_drew (S := fun w' => OwnN w' w.heap.size N a n c ∧ Below w.heap.size w w') (by kernel_rfl) (⟨HO.out.drew, HBw.out.drew⟩) (fun hld => ?_)
 refine Rg.tk (i := 0) rfl ?_
 try simp only [Act.put, Rg.s]
 refine Rg.tk (i := 1) rfl ?_ (hy := by intro wz hSw; (have q0 := (nd_cells hSw.1).2.1; go_simp <;> with_reducible rfl))
 try simp only [Act.put, Rg.s]
 refine Rg.tk (i := 4) rfl ?_
 try simp only [Act.put, Rg.s]
 refine Rg.tk (i := 5) rfl ?_ (hy := by intro wz hSw; (have q0 := (nd_cells hSw.1).2.2; go_simp <;> with_reducible rfl))
 try simp only [Act.put, Rg.s]
 refine Rg.rd (i := 2) rfl fun K hK => ?_
 go_simp
 go_at_call 42
 (with_reducible refine (HPk.out _ hld.2).mono ?_)
 rintro e wx0 ⟨rfl, hbx⟩
 refine hK.out _ _ ?_ (fun hld => ?_)
 ·exact ⟨hld.1.below hbx, bst hld.2 hbx⟩
 clear hK K hbx
 try simp only [Act.put, Rg.s]
 refine Rg.rd (i := 3) rfl fun K hK => ?_
 go_simp
 go_at_call 41
 (with_reducible refine (HT1.out _).mono ?_)
 rintro e wx1 ⟨rfl, hbx⟩
 refine hK.out _ _ ?_ (fun hld => ?_)
 ·exact ⟨hld.1.below hbx, bst hld.2 hbx⟩
 clear hK K hbx
 try simp only [Act.put, Rg.s]
 refine Rg.rd (i := 6) rfl fun K hK => ?_
 go_simp
 go_at_call 41
 (with_reducible refine (HT2.out _).mono ?_)
 rintro e wx2 ⟨rfl, hbx⟩
 refine hK.out _ _ ?_ (fun hld => ?_)
 ·exact ⟨hld.1.below hbx, bst hld.2 hbx⟩
 clear hK K hbx
 try simp only [Act.put, Rg.s]
 refine Rg.tk (i := 7) rfl ?_ (hy := by intro wz hSw; (have q0 := HSZ.out; go_simp <;> with_reducible rfl))
 try simp only [Act.put, Rg.s]
 refine Rg.tk (i := 8) rfl ?_
 try simp only [Act.put, Rg.s]
 refine wpAnyH_done (by kernel_rfl) ?_ _
 refine NoPanic.normal ?_
 rw [HX.out]
 obtain ⟨c0, c1, c2⟩ := nd_cells hld.1
 rw [HK.out] at c0
 have HB8 := hid hld.2
 clear hld
 have hsz9 : (headS X.size true).size ≤ 9 := by unfold headS; rw [ba_size]; exact headL_le _ _ (by omega)
 have HHd := hid (rhead_any X.size (by omega) true)
 go_wp2_with fail
 refine (HHd.out _).mono ?_
 rintro e w9 ⟨rfl, hb9⟩
 have HB9 := hid (bst HB8.out hb9)
 clear hb9
 go_wp2
 go_ret
 exact ⟨by rw [HF.out]; rfl, HB9.out⟩
theorem rput_ext (N : Nd) (a : Option Addr) (n c : Nat) (hl : N.ks.length = 16) (w : World) (hB : IsBs w a n c N.p) (hm : mayW refP N = true) (hkd : N.kd = 2) :
  Calls Tryz.prog 22 #[.agg (ndC N a n c)] w fun e w' => e = .returned (.string ⟨(putP N).toArray⟩) ∧ Below w.heap.size w w' := by
 obtain ⟨m1, m2, _⟩ := may_parts hm
 obtain ⟨f1, f2⟩ := putP_flat hl hm
 have hn64 : n ≤ 64 := by rw [← hB.len]; exact m1
 obtain ⟨w2, hw2⟩ : ∃ w2, w2 = w.alloc (.cells (ndC N a n c) 57) := ⟨_, rfl⟩
 have hO : OwnN w2 w.heap.size N a n c := by rw [hw2]; exact Rg.Own.new _ _ _
 have hBe : Below w.heap.size w w2 := by rw [hw2]; exact al1 _ _
 have HPk := hid (fun w' hb => rpack_any a n c N.p false m2 hn64 w' (hB.below hb))
 have HI : Hid (flatA (itemsP N) = ⟨(It.mk false ⟨(packL N.p false).toArray⟩ []).bytes.toArray⟩ ++ ⟨(refI (N.ks.getD 0 eB)).bytes.toArray⟩) := hid (by
  unfold itemsP pathI
  rw [if_neg (by omega), if_neg (by omega)]
  rw [show ∀ x y : It, [x, y] = [x] ++ [y] from fun _ _ => rfl, flatA_app, flatA_one, flatA_one, hkd]
  rfl)
 obtain ⟨P, hP⟩ : ∃ P, (⟨(packL N.p false).toArray⟩ : ByteArray) = P := ⟨_, rfl⟩
 have hps : P.size ≤ 100 := by rw [← hP, packL_size, hB.len]; omega
 rw [hP] at HPk HI
 have HT1 := hid (fun w => rtext_any P (by omega) w)
 have hr : refP (N.ks.getD 0 eB) = true := by
  rcases may_kinds hl hm with ⟨k1, _⟩ | ⟨_, _, _, _, _, r⟩ | ⟨k3, _⟩
  ·omega
  ·exact r
  ·omega
 obtain ⟨k, hk⟩ : ∃ k, N.ks.getD 0 eB = k := ⟨_, rfl⟩
 rw [hk] at hr HI
 have HCk : Hid (∀ wz, OwnN wz w.heap.size N a n c → wz.cell? ⟨w.heap.size, 3, none⟩ = some (.string k)) := hid (fun wz h => by rw [← hk]; exact nd_kid h hl 0 (by decide))
 have hks : k.size ≤ 100 := by
  cases hp : plainB k with
  | true => have := plain_size hp; omega
  | false => obtain ⟨_, _, _, _, _, _, h, _⟩ := ref_list hp hr; omega
 have HT2 := hid (fun w => rref_any k hks hr w)
 clear hk hr hks
 rw [HI.out] at f1 f2
 obtain ⟨T1, hT1⟩ : ∃ T1, (⟨(It.mk false P []).bytes.toArray⟩ : ByteArray) = T1 := ⟨_, rfl⟩
 obtain ⟨T2, hT2⟩ : ∃ T2, (⟨(refI k).bytes.toArray⟩ : ByteArray) = T2 := ⟨_, rfl⟩
 rw [hT1] at f1 f2 HT1
 rw [hT2] at f1 f2 HT2
 have hts : T1.size + T2.size ≤ 1200000 := by rw [ByteArray.size_append] at f2; exact f2
 have HSZ : Hid (¬ 9223372036854775807 < T1.size + T2.size) := hid (by omega)
 obtain ⟨X, hX⟩ : ∃ X, T1 ++ T2 = X := ⟨_, rfl⟩
 have HX := hid hX
 rw [hX] at f1 f2
 have HF := hid f1
 clear hT1 hT2 hP hX HI f1 hn64
 have HL := hid hl
 have HK := hid hkd
 have HBw := hid hBe
 have HO := hid hO
 obtain ⟨c0, c1, c2⟩ := nd_cells hO
 rw [hkd] at c0
 clear hm hl m1 m2 hB hO hBe hkd
 subst hw2
 go_enter Tryz.func22, Tryz.ntmps22
 go_wp2_with fail
 refine wp_region_noPanic ?_
 refine wp_region_held_drew (S := fun w' => OwnN w' w.heap.size N a n c ∧ Below w.heap.size w w') (by kernel_rfl) (⟨HO.out.drew, HBw.out.drew⟩) (fun hld => ?_)
 refine Rg.tk (i := 0) rfl ?_
 try simp only [Act.put, Rg.s]
 refine Rg.tk (i := 1) rfl ?_ (hy := by intro wz hSw; (have q0 := (nd_cells hSw.1).2.1; go_simp <;> with_reducible rfl))
 try simp only [Act.put, Rg.s]
 refine Rg.tk (i := 4) rfl ?_
 try simp only [Act.put, Rg.s]
 refine Rg.tk (i := 5) rfl ?_
 try simp only [Act.put, Rg.s]
 refine Rg.tk (i := 6) rfl ?_ (hy := by intro wz hSw; (have q0 := HCk.out wz hSw.1; go_simp <;> with_reducible rfl))
 try simp only [Act.put, Rg.s]
 refine Rg.rd (i := 2) rfl fun K hK => ?_
 go_simp
 go_at_call 42
 (with_reducible refine (HPk.out _ hld.2).mono ?_)
 rintro e wx0 ⟨rfl, hbx⟩
 refine hK.out _ _ ?_ (fun hld => ?_)
 ·exact ⟨hld.1.below hbx, bst hld.2 hbx⟩
 clear hK K hbx
 try simp only [Act.put, Rg.s]
 refine Rg.rd (i := 3) rfl fun K hK => ?_
 go_simp
 go_at_call 41
 (with_reducible refine (HT1.out _).mono ?_)
 rintro e wx1 ⟨rfl, hbx⟩
 refine hK.out _ _ ?_ (fun hld => ?_)
 ·exact ⟨hld.1.below hbx, bst hld.2 hbx⟩
 clear hK K hbx
 try simp only [Act.put, Rg.s]
 refine Rg.rd (i := 7) rfl fun K hK => ?_
 go_simp
 go_at_call 43
 (with_reducible refine (HT2.out _).mono ?_)
 rintro e wx2 ⟨rfl, hbx⟩
 refine hK.out _ _ ?_ (fun hld => ?_)
 ·exact ⟨hld.1.below hbx, bst hld.2 hbx⟩
 clear hK K hbx
 try simp only [Act.put, Rg.s]
 refine Rg.tk (i := 8) rfl ?_ (hy := by intro wz hSw; (have q0 := HSZ.out; go_simp <;> with_reducible rfl))
 try simp only [Act.put, Rg.s]
 refine Rg.tk (i := 9) rfl ?_
 try simp only [Act.put, Rg.s]
 refine wpAnyH_done (by kernel_rfl) ?_ _
 refine NoPanic.normal ?_
 rw [HX.out]
 obtain ⟨c0, c1, c2⟩ := nd_cells hld.1
 rw [HK.out] at c0
 have HB8 := hid hld.2
 clear hld
 have hsz9 : (headS X.size true).size ≤ 9 := by unfold headS; rw [ba_size]; exact headL_le _ _ (by omega)
 have HHd := hid (rhead_any X.size (by omega) true)
 go_wp2_with fail
 refine (HHd.out _).mono ?_
 rintro e w9 ⟨rfl, hb9⟩
 have HB9 := hid (bst HB8.out hb9)
 clear hb9
 go_wp2
 go_ret
 exact ⟨by rw [HF.out]; rfl, HB9.out⟩
end No
end
section
open Go.RowKit
namespace Tm
open Tr Rf Rl Ni No Pk Sm
theorem put_few {N : Nd} (hl : N.ks.length = 16) (h : mayW refP N = true) : (putP N).length ≤ 900000 := by
 have key : ∀ m, (∀ y ∈ itemsP N, y.bytes.length ≤ m) → (itemsP N).length * m ≤ 200000 → (putP N).length ≤ 900000 := by
  intro m h1 h2
  have h3 := flat_le (itemsP N) m h1
  unfold putP itemP
  rw [bytes_list _ (by omega), List.length_append]
  have := headL_le ((itemsP N).map It.bytes).flatten.length true (by omega)
  omega
 have hg := items_good hl h
 rcases may_kinds hl h with ⟨k1, _⟩ | ⟨k1, _⟩ | ⟨k1, _, _, _, hr⟩
 ·exact key 65561 (fun y hy => (hg y hy).2) (by unfold itemsP; rw [if_neg (by omega), if_pos k1]; simp)
 ·exact key 65561 (fun y hy => (hg y hy).2) (by unfold itemsP; rw [if_neg (by omega), if_neg (by omega)]; simp)
 ·refine key 41 (fun y hy => ?_) (by have := items_few hl; omega)
  unfold itemsP at hy
  rw [if_pos k1] at hy
  rcases List.mem_append.1 hy with hy | hy
  ·obtain ⟨k, hk, rfl⟩ := List.mem_map.1 hy
   exact (refI_fits (hr k hk)).2
  ·obtain rfl := List.mem_singleton.1 hy
   have h := (refI_fits (k := eB) (by unfold refP; rw [eB_plain]; rfl)).2
   rw [refI_plain eB_plain] at h
   exact h
theorem ref_few {k : ByteArray} (h : refP k = true) : k.size ≤ 32 := by
 unfold refP at h
 rw [Bool.or_eq_true, Bool.and_eq_true] at h
 rcases h with h | h
 ·have : k.size = 0 ∨ k.size = 32 := of_decide_eq_true h
  omega
 ·have := of_decide_eq_true h.1
  omega
theorem nd0_not : mayW refP nd0 = false := by
 unfold mayW fitsW
 rfl
theorem enc_core (p : Option Addr) (N : Nd) (hl : N.ks.length = 16) (hv : N.v.size ≤ maxLen) (hks : ∀ k ∈ N.ks, k.size ≤ 100) (w : World) (Q : World → Prop)
  (htop : ∀ wx, Below w.heap.size w wx → Calls Tryz.prog 52 #[.agg #[.pointer p]] wx fun e w' => ∃ a n c, e = .returned (.agg (ndC N a n c)) ∧ IsBs w' a n c N.p ∧ Q w') :
  Calls Tryz.prog 29 #[.agg #[.pointer p]] w fun e w' => e = .returned (.string (if mayW refP N then ⟨(putP N).toArray⟩ else eB)) ∧ ∃ w1, Q w1 ∧ Below w1.heap.size w1 w' := by
 have h0 := box_tree w p
 have HT := hid (htop _ (al1 w (.cells #[.pointer p] 26)))
 have HL := hid hl
 have HV := hid hv
 have HK := hid hks
 obtain ⟨s, hs⟩ : ∃ s, (if mayW refP N then (⟨(putP N).toArray⟩ : ByteArray) else eB) = s := ⟨_, rfl⟩
 obtain ⟨x, hx⟩ : ∃ x : Int, (if mayW refP N then (0 : Int) else 2) = x := ⟨_, rfl⟩
 rw [hs]
 have HS := hid hs
 have HX := hid hx
 clear htop hl hv hks hs hx
 go_enter Tryz.func29, Tryz.ntmps29
 go_wp2_with (refine Rg.run rfl _ _ (op_load_tree h0 ⟨_, rfl, rfl⟩) ?_)
 refine HT.out.mono ?_
 rintro e w1 ⟨a, n, c, rfl, hB, hQ⟩
 have HP := hid (nput_any N a n c HL.out w1 hB HV.out HK.out)
 have HQ := hid hQ
 unfold putV at HP
 rw [HS.out, HX.out] at HP
 clear hB hQ HT h0
 go_wp2_with fail
 refine HP.out.mono ?_
 rintro e w2 ⟨rfl, hb2⟩
 have HB := hid hb2
 clear hb2 HP
 go_wp2
 go_ret
 exact ⟨rfl, w1, HQ.out, HB.out⟩
theorem enc_none (p : Option Addr) (k : Int) (h1 : k ≠ 1) (h2 : k ≠ 2) (h3 : k ≠ 3) (w : World)
  (hK : ∀ wx, Below w.heap.size w wx → Calls Tryz.prog 58 #[.agg #[.pointer p]] wx fun e w' => e = .returned (.int .i64 k) ∧ Below wx.heap.size wx w') :
  Calls Tryz.prog 29 #[.agg #[.pointer p]] w fun e w' => e = .returned (.string eB) ∧ Below w.heap.size w w' := by
 refine (enc_core p nd0 zks_length (by show (0 : Nat) ≤ _; omega) (fun k hk => by
  have : k = eB := List.eq_of_mem_replicate (show k ∈ List.replicate 16 eB from hk)
  rw [this]; show (0 : Nat) ≤ 100; omega) w (fun w' => Below w.heap.size w w') (fun wx hbx => ?_)).mono ?_
 ·refine (top_none p k h1 h2 h3 wx (fun wy hby => hK wy (bst hbx hby))).mono ?_
  rintro e w' ⟨rfl, hb⟩
  exact ⟨none, 0, 0, rfl, IsBs.nil _, bst hbx hb⟩
 ·rintro e w' ⟨rfl, w1, hQ, hb⟩
  exact ⟨by rw [nd0_not]; rfl, bst hQ hb⟩
theorem tree_node {t : T} {L : Nat} (g : Tr.Good t L) (hL : L ≤ 64) (f : Fine t) (hn : t ≠ .nil) (hs : ¬ IsStub t) : mayW refP (nodeT t) = true ∧ encT t = ⟨(putP (nodeT t)).toArray⟩ ∧ (encT t).size ≤ 900000 ∧ (nodeT t).v.size ≤ maxLen ∧ (nodeT t).p.length ≤ 64 ∧ ∀ k ∈ (nodeT t).ks, k.size ≤ 100 := by
 have hm := (may_tree t L g hL f hn).1 hs
 have he : encT t = ⟨(putP (nodeT t)).toArray⟩ := by
  cases t with
  | nil => exact absurd rfl hn
  | stub r => exact absurd trivial hs
  | leaf p v => rfl
  | ext q s => rfl
  | br ks => rfl
 refine ⟨hm, he, ?_, ?_, ?_, ?_⟩
 ·rw [he]
  have := put_few (nodeT_length t) hm
  show (putP (nodeT t)).toArray.size ≤ _
  simpa using this
 ·cases t with
  | leaf p v => exact Nat.le_trans f.2 (by unfold maxLen; omega)
  | _ => exact Nat.zero_le _
 ·unfold mayW at hm
  rw [Bool.and_eq_true, Bool.and_eq_true] at hm
  exact of_decide_eq_true hm.1.1
 ·intro k hk
  have hz : ∀ x, x = eB → x.size ≤ 100 := fun x e => by rw [e]; exact Nat.zero_le _
  cases t with
  | nil => exact hz k (List.eq_of_mem_replicate (show k ∈ List.replicate 16 eB from hk))
  | stub r => exact absurd trivial hs
  | leaf p v => exact hz k (List.eq_of_mem_replicate (show k ∈ List.replicate 16 eB from hk))
  | ext q s =>
   rcases List.mem_cons.1 (show k ∈ ref s :: List.replicate 15 eB from hk) with rfl | h
   ·obtain ⟨_, _, g3, g4, g5⟩ := g
    have := ref_few (may_tree s _ g5 (by omega) f (isBr_ne g4)).2.1
    omega
   ·exact hz k (List.eq_of_mem_replicate h)
  | br ks =>
   obtain ⟨i, _, rfl⟩ := List.mem_map.1 (show k ∈ (List.finRange 16).map fun i => ref (ks i) from hk)
   by_cases e : ks i = .nil
   ·rw [e]; exact Nat.zero_le _
   ·have := ref_few (may_tree (ks i) _ (g.2.2 i) (by omega) (f i) e).2.1
    show (ref (ks i)).size ≤ 100
    omega
theorem path_len {t : T} {L : Nat} (g : Tr.Good t L) : (pathT t).length ≤ L := by
 cases t with
 | leaf p v => exact Nat.le_of_eq g.1
 | ext q s => exact g.2.2.1
 | nil => exact Nat.zero_le _
 | br ks => exact Nat.zero_le _
 | stub r => exact Nat.zero_le _
theorem top_any (M : Mp) (b : Nat) (t : T) (hm : M.at_ b = some t) (hs : ¬ IsStub t) (hn : t ≠ .nil) {L : Nat} (g : Tr.Good t L) (hL : L ≤ 64) (w : World) (hi : InvN M (sz t) w) {pa : Option Addr} {pn pc : Nat} {ka : Option Addr} {kn kc : Nat} (hB : Body M w b t pa pn pc ka kn kc) (hT : Tab w)
  (hR1 : ∀ q s, t = .ext q s → RefC s) (hR2 : ∀ ks, t = .br ks → ∀ i, RefC (ks i)) :
  Calls Tryz.prog 52 #[.agg #[.pointer (some ⟨b, 0, none⟩)]] w (TopPost M t w) := by
 have hp := path_len g
 cases t with
 | nil => exact absurd rfl hn
 | stub r => exact absurd trivial hs
 | leaf q v => exact top_leaf M b q v hm w hi pa pn pc ka kn kc hB (by have : q.length ≤ L := hp; omega)
 | ext q s => exact top_ext M b q s hm w hi pa pn pc ka kn kc hB (by have : q.length ≤ L := hp; omega) hT (hR1 q s rfl)
 | br ks => exact top_br M b ks hm w hi pa pn pc ka kn kc hB hT (hR2 ks rfl)
theorem enc_any (M : Mp) (b : Nat) (t : T) (hm : M.at_ b = some t) (hs : ¬ IsStub t) (hn : t ≠ .nil) {L : Nat} (g : Tr.Good t L) (hL : L ≤ 64) (f : Fine t) (w : World) (hi : InvN M (sz t) w) {pa : Option Addr} {pn pc : Nat} {ka : Option Addr} {kn kc : Nat} (hB : Body M w b t pa pn pc ka kn kc) (hT : Tab w)
  (hR1 : ∀ q s, t = .ext q s → RefC s) (hR2 : ∀ ks, t = .br ks → ∀ i, RefC (ks i)) :
  Calls Tryz.prog 29 #[.agg #[.pointer (some ⟨b, 0, none⟩)]] w fun e w' => e = .returned (.string (encT t)) ∧ FrN M (sz t) w w' ∧ InvN M (sz t) w' := by
 obtain ⟨h1, h2, h3, h4, h5, h6⟩ := tree_node g hL f hn hs
 refine (enc_core (some ⟨b, 0, none⟩) (nodeT t) (nodeT_length t) h4 h6 w (fun w' => FrN M (sz t) w w' ∧ InvN M (sz t) w') (fun wx hbx => ?_)).mono ?_
 ·refine (top_any M b t hm hs hn g hL wx (hi.below hbx) (hB.below hbx) (hT.below hbx hT.pos) hR1 hR2).mono ?_
  rintro e w' ⟨a, n, c, rfl, hx, hf, hi'⟩
  exact ⟨a, n, c, rfl, hx, (FrN.below M _ hbx).trans hf, hi'⟩
 ·rintro e w' ⟨rfl, w1, ⟨hf, hi1⟩, hb⟩
  exact ⟨by rw [if_pos h1, h2], hf.trans (FrN.below M _ hb), hi1.below hb⟩
def lockC (t : T) (a : Option Addr) (n c : Nat) (ka : Option Addr) (kn kc : Nat) (r : ByteArray) : Array Value :=
 #[.int .i64 (kindT t), .slice a n c, .string (valT t), .slice ka kn kc, .int .u32 0, .int .i32 1, .int .u32 0, .string r]
theorem lock_no {t : T} {a : Option Addr} {n c : Nat} {ka : Option Addr} {kn kc : Nat} {r : ByteArray} {j : Nat} {v : Value} (h : (lockC t a n c ka kn kc r)[j]? = some v) : (∀ x, v ≠ .int .u8 x) ∧ ∀ p, v ≠ .pointer p := by
 unfold lockC at h
 match j, h with
 | 0, h | 1, h | 2, h | 3, h | 4, h | 5, h | 6, h | 7, h =>
  simp at h
  subst h
  exact ⟨fun x e => (by cases e), fun p e => (by cases e)⟩
 | j + 8, h => simp at h
theorem lock_nobp {w : World} {b : Nat} {t : T} {a : Option Addr} {n c : Nat} {ka : Option Addr} {kn kc : Nat} {r : ByteArray} (h : Rg.Own w b (lockC t a n c ka kn kc r) 106) : NoBP w b := by
 refine ⟨fun j v hc => lock_no (cell_heap h.2 hc), ?_⟩
 rw [World.cell?, h.2]
 rfl
theorem meet_store_at {o : Oper} {a : Act} {w : World} {K : Act → World → Prop} {Q : Exit → Act → World → Prop} {ops : Array Oper} (hw : Region.wanted o (yielded ops a.tmps) = true) {b off : Nat} {cs : Array Value} {t : TypeId} (hg : Rg.Own w b cs t) (hof : off < cs.size) (s : ByteArray)
  (ho : ∃ x y, o.op = .store 9 x y ∧ a.eval x = .pointer (some ⟨b, off, none⟩) ∧ a.eval y = .string s)
  (h : ∀ w', Rg.Own w' b (cs.setIfInBounds off (.string s)) t → Rg.Upd w b w' → K (a.put o.dst undef) w') : if Region.wanted o (yielded ops a.tmps) = true then Oper.wp Tryz.prog o a w K Q else K (a.put o.dst undef) w := by
 obtain ⟨x, y, ho, hx, hy⟩ := ho
 refine Rg.want hw ?_
 unfold Oper.wp execOp
 simp only [ho, hx, hy, Sem.run_bind, Sem.run_pure, Result.andThen_ok, store_str_at hg hof s]
 exact h _ (own_setCell hg _) (upd_setCell _ _ _ _)
theorem InvN.lock {M : Mp} {n : Nat} {w w' : World} {b : Nat} {t : T} (h : InvN M n w) (hu : Rg.Upd w b w') (hm : M.at_ b = some t) (hnt : n ≤ sz t) (hN : NoBP w' b) : InvN M n w' := by
 refine ⟨fun k hk => by rw [hu.size]; exact h.lt_ k hk, fun b' t' hm' => ?_⟩
 obtain ⟨h1, h2, h3, h4⟩ := h.part_ b' t' hm'
 have hNb := (h.part_ b t hm).2.2.1
 by_cases e : b' = b
 ·subst e
  obtain rfl : t = t' := by rw [hm] at hm'; exact Option.some.inj hm'
  exact ⟨h1, h2, hN, fun hl => absurd hl (by omega)⟩
 ·refine ⟨h1, h2, h3.keep (hu.block b' e), fun hl => (h4 hl).keep (by rw [hu.size]; exact Nat.le_refl _) (hu.block b' e) (fun k j v hk hc hv => hu.block k (fun ek => ?_))⟩
  subst ek
  rcases hv with ⟨x, rfl⟩ | ⟨p, rfl⟩
  ·exact (hNb.1 _ _ hc).1 x rfl
  ·exact (hNb.1 _ _ hc).2 p rfl
theorem Body.upd {M : Mp} {w w' : World} {b : Nat} {t : T} {a : Option Addr} {n c : Nat} {ka : Option Addr} {kn kc : Nat} (h : Body M w b t a n c ka kn kc) (hN : NoBP w b) (hu : Rg.Upd w b w') (hc : ∀ j, j < 4 → w'.cell? ⟨b, j, none⟩ = w.cell? ⟨b, j, none⟩) : Body M w' b t a n c ka kn kc := by
 refine ⟨(hc 0 (by omega)).trans h.c0, (hc 1 (by omega)).trans h.c1, (hc 2 (by omega)).trans h.c2, (hc 3 (by omega)).trans h.c3, ⟨h.hb.1, h.hb.2.1, h.hb.2.2.1, h.hb.2.2.2.1, fun j hj => ?_⟩, h.hk.1, h.hk.2.1, h.hk.2.2.1, h.hk.2.2.2.1, fun j hj => ?_⟩
 ·obtain ⟨b', off, e, hlt, hcb⟩ := h.hb.2.2.2.2 j hj
  refine ⟨b', off, e, by rw [hu.size]; exact hlt, ?_⟩
  rw [World.cell?_of_block (hu.block b' (fun ek => by subst ek; exact (hN.1 _ _ hcb).1 _ rfl))]
  exact hcb
 ·obtain ⟨b', off, p, e, hlt, hf, hcb, ht⟩ := h.hk.at' j hj
  refine ⟨b', off, p, e, by rw [hu.size]; exact hlt, hf, ?_, ht⟩
  rw [World.cell?_of_block (hu.block b' (fun ek => by subst ek; exact (hN.1 _ _ hcb).2 _ rfl))]
  exact hcb
theorem do_ref (M : Mp) (b : Nat) (t : T) (hm : M.at_ b = some t) (hsz : (encT t).size ≤ 900000) (bx : Nat) (w : World) (hbx : w.cell? ⟨bx, 0, none⟩ = some (.pointer (some ⟨b, 0, none⟩))) (hne : bx ≠ b) (hi : InvN M (sz t) w) (hT : Tab w)
  {a : Option Addr} {n c : Nat} {ka : Option Addr} {kn kc : Nat} (hO : Rg.Own w b (lockC t a n c ka kn kc eB) 106)
  (hE : Calls Tryz.prog 29 #[.agg #[.pointer (some ⟨b, 0, none⟩)]] w.drew fun e w' => e = .returned (.string (encT t)) ∧ FrN M (sz t) w.drew w' ∧ InvN M (sz t) w') :
  Calls Tryz.prog 110 #[.pointer (some ⟨bx, 0, none⟩)] w fun e w' => e = .returned (.tuple #[]) ∧ ∃ w1, FrN M (sz t) w w1 ∧ InvN M (sz t) w1 ∧ Rg.Upd w1 b w' ∧ Rg.Own w' b (lockC t a n c ka kn kc (ofP (encT t))) 106 := by
 have HEn := hid hE
 have HSz := hid hsz
 have hnb : M.at_ b = none ∨ ∃ t', M.at_ b = some t' ∧ sz t ≤ sz t' := Or.inr ⟨t, hm, Nat.le_refl _⟩
 have HF : Hid (∀ w5, FrN M (sz t) w.drew w5 → InvN M (sz t) w5 → w5.cell? ⟨bx, 0, none⟩ = some (.pointer (some ⟨b, 0, none⟩)) ∧ Tab w5 ∧ Rg.Own w5 b (lockC t a n c ka kn kc eB) 106 ∧
   ∀ w6, Below w5.heap.size w5 w6 → w6.cell? ⟨bx, 0, none⟩ = some (.pointer (some ⟨b, 0, none⟩)) ∧ Rg.Own w6 b (lockC t a n c ka kn kc eB) 106 ∧
   ∀ w10, Rg.Own w10 b ((lockC t a n c ka kn kc eB).setIfInBounds 7 (.string (ofP (encT t)))) 106 → Rg.Upd w6 b w10 → w10.cell? ⟨bx, 0, none⟩ = some (.pointer (some ⟨b, 0, none⟩)) ∧ ∃ w1, FrN M (sz t) w w1 ∧ InvN M (sz t) w1 ∧ Rg.Upd w1 b w10 ∧ Rg.Own w10 b (lockC t a n c ka kn kc (ofP (encT t))) 106) := hid (fun w5 hf5 hi5 => by
  have hiD : InvN M (sz t) w.drew := hi.below (below_drewN (Below.refl _ _) 1)
  have hTD : Tab w.drew := hT
  have h5 := hf5.cell (b := bx) (o := 0) hbx (Or.inl (hiD.no_ptr (j := 0) hbx))
  have hO5 : Rg.Own w5 b (lockC t a n c ka kn kc eB) 106 := ⟨Nat.lt_of_lt_of_le hO.1 hf5.size, (hf5.block b hO.1 hnb).trans hO.2⟩
  refine ⟨h5, tab_frN hiD hf5 hTD, hO5, fun w6 hb6 => ⟨cell_on hb6 h5, hO5.below hb6, fun w10 hO10 hu => ⟨?_, w6, (((FrN.below M _ (below_drewN (Below.refl _ _) 1)).trans hf5).trans (FrN.below M _ hb6)), hi5.below hb6, hu, hO10⟩⟩⟩
  rw [← cell_on hb6 h5]
  exact World.cell?_of_block (w := w6) (hu.block bx hne))
 clear hE hsz hi hT hO hm hnb hne
 go_enter Tryz.func110, Tryz.ntmps110
 go_wp2_with fail
 refine wp_region_noPanic ?_
 refine wp_region_held_drew (S := fun w' => w'.cell? ⟨bx, 0, none⟩ = some (.pointer (some ⟨b, 0, none⟩))) (by kernel_rfl) (hbx) (fun hld => ?_)
 refine Rg.tk (i := 0) rfl ?_
 try simp only [Act.put, Rg.s]
 refine Rg.tk (i := 1) rfl ?_ (hy := by intro wz hSw; have hcc := hSw; (try dsimp only at hSw); go_simp <;> with_reducible rfl)
 try simp only [Act.put, Rg.s]
 refine Rg.tk (i := 2) rfl ?_ (hy := by intro wz hSw; (refine op_load_tree hSw ?_; exact ⟨_, rfl, rfl⟩))
 try simp only [Act.put, Rg.s]
 refine Rg.rd (i := 3) rfl fun K hK => ?_
 go_simp
 go_at_call 29
 (with_reducible refine HEn.out.mono ?_)
 rintro e w5 ⟨rfl, hf5, hi5⟩
 obtain ⟨hS5, hT5, hO5, H5'⟩ := HF.out w5 hf5 hi5
 have H5 := hid H5'
 have HO5 := hid hO5
 have HT5 := hid hT5
 clear hf5 hi5 H5' hO5 hT5
 refine hK.out _ _ ?_ (fun hld => ?_)
 ·exact hS5
 clear hK K
 try simp only [Act.put, Rg.s]
 refine Rg.rd (i := 4) rfl fun K hK => ?_
 go_simp
 go_at_call 49
 (with_reducible refine (fof_any _ HSz.out w5 HT5.out).mono ?_)
 rintro e w6 ⟨rfl, hb6⟩
 obtain ⟨hS6, hO6, H6'⟩ := H5.out w6 hb6
 have H6 := hid H6'
 have HO6 := hid hO6
 clear hb6 H6' hO6
 refine hK.out _ _ ?_ (fun hld => ?_)
 ·exact hS6
 clear hK K
 try simp only [Act.put, Rg.s]
 refine Rg.tk (i := 5) rfl ?_
 try simp only [Act.put, Rg.s]
 refine Rg.tk (i := 6) rfl ?_
 try simp only [Act.put, Rg.s]
 refine Rg.rd (i := 7) rfl fun K hK => ?_
 refine meet_store_at (by rfl) HO6.out (off := 7) (show 7 < 8 by omega) (ofP (encT t)) ⟨_, _, rfl, rfl, rfl⟩ ?_
 intro w10 hO10 hu10
 obtain ⟨hS10, H10'⟩ := H6.out w10 hO10 hu10
 have H10 := hid H10'
 clear hO10 H10'
 refine hK.out _ _ ?_ (fun hld => ?_)
 ·exact hS10
 clear hK K
 try simp only [Act.put, Rg.s]
 refine wpAnyH_done (by kernel_rfl) ?_ _
 refine NoPanic.normal ?_
 go_wp2
 go_end0
 exact ⟨rfl, H10.out⟩
end Tm
end
section
open Go.RowKit
namespace Rf
open Rl Ni No Sh Sm
def sumS (s : ByteArray) : ByteArray := ⟨(sumB s).toArray⟩
theorem rsum_of (s : ByteArray) (hs : s.size ≤ 900000) (w : World) :
  Calls Tryz.prog 53 #[.string s] w fun e w' => e = .returned (.string (sumS s)) ∧ Below w.heap.size w w' := by
 have h := rof_any s.data.toList (by simpa using hs) w
 have e : (⟨s.data.toList.toArray⟩ : ByteArray) = s := by apply ByteArray.ext; simp
 rw [e] at h
 exact h
theorem rsum_sum (s : ByteArray) (hs : s.size ≤ 900000) (w : World) :
  Calls Tryz.prog 30 #[.string s] w fun e w' => e = .returned (.agg (kc (sumB s))) ∧ Below w.heap.size w w' := by
 have h := rsum_any s.data.toList (by simpa using hs) w
 have e : (⟨s.data.toList.toArray⟩ : ByteArray) = s := by apply ByteArray.ext; simp
 rw [e] at h
 exact h
theorem r7of_any (s : ByteArray) (hs : s.size ≤ 900000) (w : World) :
  Calls Tryz.prog 40 #[.string s] w fun e w' => e = .returned (.string (ofP s)) ∧ Below w.heap.size w w' := by
 by_cases h : s.size < 32
 ·have HF : Hid (ofP s = s) := hid (by unfold ofP; rw [if_pos h])
  have hd : decide ((32 : Int) ≤ (s.size : Int)) = false := by simp; omega
  rw [HF.out]
  clear HF
  go_enter Tryz.func40, Tryz.ntmps40
  go_wp2
  go_ret
  exact ⟨rfl, Below.refl _ _⟩
 ·have HF : Hid (ofP s = sumS s) := hid (by unfold ofP; rw [if_neg h]; rfl)
  have hd : decide ((32 : Int) ≤ (s.size : Int)) = true := by simp; omega
  have HOf := hid (rsum_of s hs w)
  rw [HF.out]
  obtain ⟨K, hK⟩ : ∃ K, sumS s = K := ⟨_, rfl⟩
  rw [hK] at HOf
  rw [hK]
  clear HF hK
  go_enter Tryz.func40, Tryz.ntmps40
  go_wp2_with fail
  refine HOf.out.mono ?_
  rintro e w1 ⟨rfl, hb1⟩
  go_wp2
  go_ret
  exact ⟨rfl, hb1⟩
theorem r7root_any (s : ByteArray) (hs : s.size ≤ 900000) (w : World) :
  Calls Tryz.prog 11 #[.string s] w fun e w' => e = .returned (.agg (kc (rootP s))) ∧ Below w.heap.size w w' := by
 have HKl := hid (rootP_length s)
 by_cases h : s.size = 0
 ·obtain rfl := size_zero h
  have HOf := hid (fun W => rsum_sum ⟨#[128]⟩ (by decide) W)
  have hR : rootP eB = sumB ⟨#[128]⟩ := rfl
  rw [← hR] at HOf
  obtain ⟨K, hK⟩ : ∃ K, rootP eB = K := ⟨_, rfl⟩
  rw [hK] at HOf HKl
  rw [hK]
  clear hK hR h
  go_enter Tryz.func11, Tryz.ntmps11
  go_wp2_with (refine wpList_run rfl _ _ (run_alloc_sum _ _ rfl _ _ rfl) ?_)
  refine (HOf.out _).mono ?_
  rintro e w1 ⟨rfl, hb1⟩
  have HO2 := hid ((Rg.Own.new w (kc zk) 35).below hb1)
  have HB2 : Hid (Below w.heap.size w w1) := hid (bst (al1 _ _) hb1)
  clear hb1
  go_wp2_with (refine wpList_store_rowTo rfl 35 _ _ rfl rfl _ (kc K) rfl rfl 35 (kc zk) HO2.out.2 (info_kc K HKl.out) (by rw [kc_size, kc_size, HKl.out]; rfl) (kc_one _) ?_)
  exact bodyPost_ret (results_cell_row rfl _ _ w.heap.size 35 (kc K) (0, 0) _ rfl (setRow_heap _ _ _ _ _ _ HO2.out.2) Tryz.underlying35 rfl (info_kc K HKl.out)) rfl ⟨rfl, Sm.below_row HB2.out (Nat.le_refl _) _⟩
 ·have hne := Ni.not_empty (s := s) (by omega)
  have HOf := hid (fun W => rsum_sum s hs W)
  have hR : rootP s = sumB s := by unfold rootP; rw [if_neg h]
  rw [← hR] at HOf
  obtain ⟨K, hK⟩ : ∃ K, rootP s = K := ⟨_, rfl⟩
  rw [hK] at HOf HKl
  rw [hK]
  clear hK hR h
  go_enter Tryz.func11, Tryz.ntmps11
  go_wp2_with (refine wpList_run rfl _ _ (run_alloc_sum _ _ rfl _ _ rfl) ?_)
  refine (HOf.out _).mono ?_
  rintro e w1 ⟨rfl, hb1⟩
  have HO2 := hid ((Rg.Own.new w (kc zk) 35).below hb1)
  have HB2 : Hid (Below w.heap.size w w1) := hid (bst (al1 _ _) hb1)
  clear hb1
  go_wp2_with (refine wpList_store_rowTo rfl 35 _ _ rfl rfl _ (kc K) rfl rfl 35 (kc zk) HO2.out.2 (info_kc K HKl.out) (by rw [kc_size, kc_size, HKl.out]; rfl) (kc_one _) ?_)
  exact bodyPost_ret (results_cell_row rfl _ _ w.heap.size 35 (kc K) (0, 0) _ rfl (setRow_heap _ _ _ _ _ _ HO2.out.2) Tryz.underlying35 rfl (info_kc K HKl.out)) rfl ⟨rfl, Sm.below_row HB2.out (Nat.le_refl _) _⟩
end Rf
end
section
open Go.RowKit
namespace No
open Rl Ni
theorem first_step (ks : List ByteArray) (j : Nat) (hj : j < ks.length) : flatA ((ks.take (j + 1)).map refI) = flatA ((ks.take j).map refI) ++ ⟨(refI (ks.getD j eB)).bytes.toArray⟩ := by
 have e : ks.getD j eB = ks[j] := by simp [List.getD, hj]
 rw [List.take_succ_eq_append_getElem hj, List.map_append, flatA_app, List.map_cons, List.map_nil, flatA_one, e]
theorem first_few (ks : List ByteArray) (hr : ∀ k ∈ ks, refP k = true) (j : Nat) (hj : j ≤ 16) : (flatA ((ks.take j).map refI)).size ≤ 656 := by
 rw [flatA_size]
 have := flat_le ((ks.take j).map refI) 41 (fun y hy => by
  obtain ⟨k, hk, rfl⟩ := List.mem_map.1 hy
  exact (refI_fits (hr k (List.mem_of_mem_take hk))).2)
 have h2 : ((ks.take j).map refI).length * 41 ≤ 16 * 41 := Nat.mul_le_mul_right _ (by rw [List.length_map, List.length_take]; omega)
 omega
theorem nil_bytes : (⟨(It.mk false ⟨#[]⟩ []).bytes.toArray⟩ : ByteArray) = ⟨#[128]⟩ := by
 rw [bytes_text ⟨#[]⟩ (by decide)]
 rfl
theorem rput_branch (N : Nd) (a : Option Addr) (n c : Nat) (hl : N.ks.length = 16) (w : World) (hB : IsBs w a n c N.p) (hm : mayW refP N = true) (hkd : N.kd = 3) :
  Calls Tryz.prog 22 #[.agg (ndC N a n c)] w fun e w' => e = .returned (.string ⟨(putP N).toArray⟩) ∧ Below w.heap.size w w' := by
 obtain ⟨m1, m2, _⟩ := may_parts hm
 obtain ⟨f1, f2⟩ := putP_flat hl hm
 have hn64 : n ≤ 64 := by rw [← hB.len]; exact m1
 obtain ⟨w2, hw2⟩ : ∃ w2, w2 = w.alloc (.cells (ndC N a n c) 57) := ⟨_, rfl⟩
 have hO : OwnN w2 w.heap.size N a n c := by rw [hw2]; exact Rg.Own.new _ _ _
 have hBe : Below w.heap.size w w2 := by rw [hw2]; exact al1 _ _
 have HPk := hid (fun w' hb => rpack_any a n c N.p true m2 hn64 w' (hB.below hb))
 have hr : ∀ k ∈ N.ks, refP k = true := by
  rcases may_kinds hl hm with ⟨k1, _⟩ | ⟨k2, _⟩ | ⟨_, _, _, _, r⟩
  ·omega
  ·omega
  ·exact r
 have HI : Hid (flatA (itemsP N) = flatA ((N.ks.take 16).map refI) ++ ⟨#[128]⟩) := hid (by
  unfold itemsP
  rw [if_pos hkd, flatA_app, flatA_one, List.take_of_length_le (by omega)]
  show _ ++ (⟨(It.mk false ⟨#[]⟩ []).bytes.toArray⟩ : ByteArray) = _
  rw [nil_bytes])
 have HRf : Hid (∀ j, j < 16 → ∀ w, Calls Tryz.prog 43 #[.string (N.ks.getD j eB)] w fun e w' => e = .returned (.string ⟨(refI (N.ks.getD j eB)).bytes.toArray⟩) ∧ Below w.heap.size w w') := hid (fun j hj w => by
  have hmem : N.ks.getD j eB ∈ N.ks := by rw [List.getD_eq_getElem?_getD, List.getElem?_eq_getElem (by omega)]; exact List.getElem_mem _
  refine rref_any _ ?_ (hr _ hmem) w
  cases hp : plainB (N.ks.getD j eB) with
  | true => have := plain_size hp; omega
  | false => obtain ⟨_, _, _, _, _, _, h, _⟩ := ref_list hp (hr _ hmem); omega)
 have HFs : Hid (∀ j, j < 16 → flatA ((N.ks.take (j + 1)).map refI) = flatA ((N.ks.take j).map refI) ++ ⟨(refI (N.ks.getD j eB)).bytes.toArray⟩) := hid (fun j hj => first_step N.ks j (by omega))
 have HFw : Hid (∀ j, j ≤ 16 → (flatA ((N.ks.take j).map refI)).size ≤ 656) := hid (fun j hj => first_few N.ks hr j hj)
 have HFF : Hid (_ ∧ _) := hid ⟨f1, f2⟩
 clear hr f1 f2
 have HL := hid hl
 have HK := hid hkd
 have HBw := hid hBe
 have HO := hid hO
 obtain ⟨c0, c1, c2⟩ := nd_cells hO
 rw [hkd] at c0
 clear hm hl m1 m2 hB hO hBe hkd
 subst hw2
 go_enter Tryz.func22, Tryz.ntmps22
 go_wp2_with fail
 go_loopw [3, 4] (fun s i wr => ∃ (j : Nat) (T : ByteArray), j ≤ 16 ∧ i = .int .i64 j ∧ s = .string T ∧ T.size ≤ 656 ∧ Hid (flatA ((N.ks.take j).map refI) = T) ∧ Hid (OwnN wr w.heap.size N a n c) ∧ Hid (Below w.heap.size w wr)) (fun _ i _ => 16 - (intOf i).toNat)
 case atStart => exact ⟨0, ⟨#[]⟩, Nat.zero_le _, rfl, rfl, by decide, hid rfl, HO, HBw⟩
 case round =>
  obtain ⟨j, T, hj, rfl, rfl, hT, HT, HN, HB⟩ := hrel
  clear HO HBw c0 c1 c2
  by_cases hlt : j < 16
  ·have HR := hid (fun w => HRf.out j hlt w)
   have HS := hid (HFs.out j hlt)
   have HW := HFw.out (j + 1) (by omega)
   have hc := nd_kid HN.out HL.out j hlt
   have HS2 : Hid (flatA ((N.ks.take (j + 1)).map refI) = T ++ ⟨(refI (N.ks.getD j eB)).bytes.toArray⟩) := hid (by rw [HS.out, HT.out])
   rw [HS2.out] at HW
   obtain ⟨k, hk⟩ : ∃ k, N.ks.getD j eB = k := ⟨_, rfl⟩
   rw [hk] at hc HR HW HS2
   obtain ⟨U, hU⟩ : ∃ U, (⟨(refI k).bytes.toArray⟩ : ByteArray) = U := ⟨_, rfl⟩
   rw [hU] at HR HW HS2
   have hsz : T.size + U.size ≤ 656 := by rw [ByteArray.size_append] at HW; exact HW
   clear hk hU HS HT HRf HFs HFw
   go_wp2_with fail
   refine (HR.out _).mono ?_
   rintro e w5 ⟨rfl, hb5⟩
   have HN5 := hid (HN.out.below hb5)
   have HB5 := hid (bst HB.out hb5)
   clear hb5 HN HB hc
   go_wp2
   go_roundw
   case rel => exact ⟨j + 1, T ++ U, by omega, by go_num, rfl, HW, HS2, HN5, HB5⟩
   case measure => simp [intOf]; omega
  ·obtain rfl : j = 16 := by omega
   obtain ⟨f1, f2⟩ := HFF.out
   rw [HI.out, HT.out] at f1 f2
   obtain ⟨X, hX⟩ : ∃ X, T ++ ⟨#[128]⟩ = X := ⟨_, rfl⟩
   rw [hX] at f1 f2
   have HF := hid f1
   have hsz : T.size + (⟨#[128]⟩ : ByteArray).size ≤ 1200000 := by rw [← ByteArray.size_append, hX]; exact f2
   have hone : (⟨#[128]⟩ : ByteArray).size = 1 := rfl
   rw [hone] at hsz
   have HXe := hid hX
   have hsz9 : (headS X.size true).size ≤ 9 := by unfold headS; rw [ba_size]; exact headL_le _ _ (by omega)
   have hXs : (X.size : Int) = (T.size : Int) + 1 := by rw [← hX, ByteArray.size_append, hone]; rfl
   have hHd := rhead_any X.size (by omega) true
   rw [hXs] at hHd
   have HHd := hid hHd
   clear hHd hXs
   have h12 := f2
   rw [← hX] at h12
   obtain ⟨c0, c1, c2⟩ := nd_cells HN.out
   rw [HK.out] at c0
   clear f1 hX HFF HI HRf HFs HFw
   go_wp2_with fail
   rw [HXe.out]
   with_reducible refine (HHd.out _).mono ?_
   rintro e w9 ⟨rfl, hb9⟩
   have HB9 := hid (bst HB.out hb9)
   clear hb9
   go_wp2
   go_ret
   exact ⟨by rw [HF.out]; rfl, HB9.out⟩
theorem rput_of (N : Nd) (a : Option Addr) (n c : Nat) (hl : N.ks.length = 16) (w : World) (hB : IsBs w a n c N.p) (hm : mayW refP N = true) :
  Calls Tryz.prog 22 #[.agg (ndC N a n c)] w fun e w' => e = .returned (.string ⟨(putP N).toArray⟩) ∧ Below w.heap.size w w' := by
 rcases may_kinds hl hm with ⟨k1, _⟩ | ⟨k1, _⟩ | ⟨k1, _⟩
 ·exact rput_leaf N a n c hl w hB hm k1
 ·exact rput_ext N a n c hl w hB hm k1
 ·exact rput_branch N a n c hl w hB hm k1
end No
end
section
open Go.RowKit
namespace Tm
open Tr Ni Pk Ky No Rf Rl
theorem bs_upto {w : World} {a : Option Addr} {n c : Nat} {l : List UInt8} (h : IsBs w a n c l) (j : Nat) (hj : j ≤ n) : IsBs w a j c (l.take j) := by
 have h1 := h.1
 refine ⟨by omega, h.2.1, by rw [List.length_take, h.len]; omega, h.2.2.2.1, fun i hi => ?_⟩
 obtain ⟨b, off, e, hlt, hc⟩ := h.at' i (by omega)
 refine ⟨b, off, e, hlt, ?_⟩
 rw [hc]
 simp [List.getD, hi]
theorem ndC_set (N : Nd) (a : Option Addr) (n c i : Nat) (s : ByteArray) : (ndC N a n c).setIfInBounds (3 + i) (.string s) = ndC ⟨N.kd, N.p, N.v, N.ks.set i s⟩ a n c := by
 unfold ndC
 rw [List.map_set, show 3 + i = i + 1 + 1 + 1 by omega]
 simp
theorem wpl_store_kidN {ops : Array Oper} {rest : List Oper} {o : Oper} {act : Act} {w : World} {Q : Exit → Act → World → Prop} {b i : Nat} {N : Nd} {a : Option Addr} {n c : Nat} (h : OwnN w b N a n c) (hl : N.ks.length = 16) (hi : i < 16) (s : ByteArray)
  (hgd : o.guard = none) (x y : Operand) (ho : o.op = .store 9 x y) (hx : act.eval x = .pointer (some ⟨b, 3 + i, none⟩)) (hy : act.eval y = .string s)
  (hQ : ∀ w', OwnN w' b ⟨N.kd, N.p, N.v, N.ks.set i s⟩ a n c → Rg.Upd w b w' → wpList Tryz.prog ops Q rest (act.put o.dst undef) w') : wpList Tryz.prog ops Q (o :: rest) act w :=
 wpList_plain hgd fun K hK => by
  unfold Oper.wp execOp
  simp only [ho, hx, hy, Sem.run_bind, Sem.run_pure, Result.andThen_ok, store_str_at h (o := 3 + i) (by rw [ndC_size _ _ _ _ hl]; omega) s]
  refine hK _ _ (hQ _ ?_ (upd_setCell _ _ _ _))
  have := own_setCell (o := 3 + i) h (.string s)
  rwa [ndC_set] at this
def FineL (l : List Tr.In) : Prop := ∀ x ∈ l, x.2.size ≠ 0 ∧ x.2.size ≤ 65552
theorem FineL.rest {l : List Tr.In} (h : FineL l) (n : Nat) : FineL (restL l n) := fun x hx => by
 obtain ⟨y, hy, rfl⟩ := List.mem_map.1 hx
 exact h y hy
theorem FineL.begin {l : List Tr.In} (h : FineL l) (c : Fin 16) : FineL (beginL l c) := fun x hx => h x (mem_begin.1 hx).1
theorem enc_few {L : Nat} {l : List Tr.In} (hL : L ≤ 64) (ok : Ok L l) (f : FineL l) : (encT (build L l)).size ≤ 900000 := by
 by_cases hn : build L l = .nil
 ·rw [hn]; exact Nat.zero_le _
 ·have hs := full_stub (build_full L l)
  have hm := (may_tree _ L (good_build L l ok) hL (fine_build L l f) hn).1 hs
  have e : encT (build L l) = encN (nodeT (build L l)) := by
   cases hb : build L l with
   | nil => exact absurd hb hn
   | stub r => rw [hb] at hs; exact absurd trivial hs
   | leaf p v => rfl
   | ext q t => rfl
   | br ks => rfl
  rw [e, encN_size]
  exact put_few (nodeT_length _) hm
theorem enc_ref {L : Nat} {l : List Tr.In} : ofP (encT (build L l)) = ref (build L l) := (ref_enc (full_stub (build_full L l))).symm
def EncC (L : Nat) : Prop := ∀ (l : List Tr.In), Ok L l → FineL l → ∀ (a : Option Addr) (n c : Nat) (w : World), IsIns w a n c l → n ≤ 1000000 →
 Calls Tryz.prog 12 #[.slice a n c] w fun e w' => e = .returned (.string (encT (build L l))) ∧ Below w.heap.size w w'
def NodeP (w : World) (N : Nd) (e : Ending) (w' : World) : Prop := ∃ a n c, e = .returned (.tuple #[.agg (ndC N a n c), .bool true]) ∧ IsBs w' a n c N.p ∧ Below w.heap.size w w'
theorem boxN (w : World) : ∃ w1, w1 = w.alloc (.cells (ndC nd0 none 0 0) 57) ∧ OwnN w1 w.heap.size nd0 none 0 0 ∧ Below w.heap.size w w1 ∧ w1.heap.size = w.heap.size + 1 := ⟨_, rfl, Rg.Own.new _ _ _, al1 _ _, by simp⟩
theorem node_none (a : Option Addr) (c : Nat) (w : World) : Calls Tryz.prog 21 #[.slice a 0 c] w fun e w' => e = .returned (.tuple #[.agg (ndC nd0 none 0 0), .bool false]) ∧ Below w.heap.size w w' := by
 obtain ⟨w1, hw1, hO1, hb1, hs1⟩ := boxN w
 have HO := hid hO1
 have HB := hid hb1
 clear hO1 hb1
 subst hw1
 go_enter Tryz.func21, Tryz.ntmps21
 go_wp2_with (first
  | (refine Rg.run rfl _ _ (run_alloc_nd _ _ _ w.heap.size rfl rfl) ?_)
  | (refine Rg.run rfl _ _ (op_build built0 ?_) ?_; · exact ⟨_, rfl, rfl⟩)
  | (refine wpl_store_nd HO.out rfl nd0 none 0 0 rfl rfl _ _ rfl rfl rfl rfl ?_))
 exact bodyPost_ret (res_nd1 (p := 2) (u := 3) rfl _ rfl (own_rowN HO.out) rfl) rfl ⟨rfl, below_rowN HB.out (Nat.le_refl _) _⟩
theorem node_one (x : Tr.In) (a : Option Addr) (c : Nat) (w : World) (h : IsIns w a 1 c [x]) : Calls Tryz.prog 21 #[.slice a 1 c] w (NodeP w ⟨1, x.1, x.2, zks⟩) := by
 obtain ⟨w1, hw1, hO1, hb1, hs1⟩ := boxN w
 obtain ⟨b, off, hd, rfl, hblt, hin, hbs⟩ := h.at' 0 (by omega)
 have hcap := h.1
 have hmx := h.2.1
 unfold maxLen at hmx
 obtain ⟨p, v⟩ := x
 obtain ⟨hp0, hp1, hp2⟩ := hd
 simp only [Nat.zero_mul, Nat.add_zero] at hin
 have hc0 := hin.1
 have hc1 := hin.2
 have HBs : Hid (IsBs w hp0 hp1 hp2 p) := hid hbs
 dsimp only at hc0 hc1
 replace hc1 : w.cell? ⟨b, off + 1, none⟩ = some (.string v) := hc1
 have hn0 : (0 : Int) < (1 : Nat) := by omega
 have hn0' : 0 < 1 := by omega
 have HO := hid hO1
 have HB := hid hb1
 have HW : Hid (_ = _) := hid hw1
 clear hO1 hb1 hw1 h hin hbs
 go_enter Tryz.func21, Tryz.ntmps21
 go_wp2_with (refine Rg.run rfl _ _ (run_alloc_nd _ _ _ w.heap.size rfl rfl) ?_)
 rw [← HW.out]
 clear HW
 go_wp2_with fail
 refine wp_region_noPanic ?_
 refine wp_region_held_drew (S := fun w' => Below w.heap.size w w') (by kernel_rfl) (below_drewN HB.out 1) (fun hld => ?_)
 refine Rg.tk (i := 0) rfl ?_
 try simp only [Act.put, Rg.s]
 refine Rg.tk (i := 1) rfl ?_ (hy := by intro wz hSw; have q0 := hn0; have q1 := hn0'; (try dsimp only at hSw); go_simp <;> with_reducible rfl)
 try simp only [Act.put, Rg.s]
 refine Rg.tk (i := 2) rfl ?_
 try simp only [Act.put, Rg.s]
 refine Rg.tk (i := 3) rfl ?_ (hy := by intro wz hSw; have hcc := cell_on hSw hc0; (try dsimp only at hSw); go_simp <;> with_reducible rfl)
 try simp only [Act.put, Rg.s]
 refine Rg.tk (i := 4) rfl ?_
 try simp only [Act.put, Rg.s]
 refine Rg.tk (i := 5) rfl ?_ (hy := by intro wz hSw; have q0 := hn0; have q1 := hn0'; (try dsimp only at hSw); go_simp <;> with_reducible rfl)
 try simp only [Act.put, Rg.s]
 refine Rg.tk (i := 6) rfl ?_
 try simp only [Act.put, Rg.s]
 refine Rg.tk (i := 7) rfl ?_ (hy := by intro wz hSw; have hcc := cell_on hSw hc1; (try dsimp only at hSw); go_simp <;> with_reducible rfl)
 try simp only [Act.put, Rg.s]
 refine Rg.tk (i := 8) rfl ?_ (hy := by intro wz hSw; (refine op_build (_root_.Go.Proofs.YtooklabipgmolaaGreatDoor.built_leaf hp0 hp1 hp2 p v) ?_; exact ⟨_, rfl, rfl⟩))
 try simp only [Act.put, Rg.s]
 refine Rg.rd (i := 9) rfl fun K hK => ?_
 refine Rg.meetStore (by rfl) HO.out.drew 57 (ndC ⟨1, p, v, zks⟩ hp0 hp1 hp2) ⟨_, _, rfl, rfl, rfl⟩ (info_ndC _ _ _ _ rfl) (by rw [ndC_size _ _ _ _ rfl, ndC_size _ _ _ _ rfl]) (ndC_one _ _ _ _) ?_
 intro w10 hO10 hu10
 have HO10 := hid hO10
 have HB10 : Hid (Below w.heap.size w w10) := hid (hu10.below hld (Nat.le_refl _))
 clear hO10 hu10
 refine hK.out _ _ ?_ (fun hld => ?_)
 ·exact HB10.out
 clear hK K
 try simp only [Act.put, Rg.s]
 refine Rg.tk (i := 10) rfl ?_
 try simp only [Act.put, Rg.s]
 refine wpAnyH_done (by kernel_rfl) ?_ _
 refine NoPanic.normal ?_
 go_wp2
 exact bodyPost_ret (res_nd1 (p := 2) (u := 3) rfl _ rfl HO10.out rfl) rfl ⟨hp0, hp1, hp2, rfl, HBs.out.below HB10.out, HB10.out⟩
theorem wpl_store_ndL {ops : Array Oper} {rest : List Oper} {o : Oper} {act : Act} {w : World} {Q : Exit → Act → World → Prop} {b : Nat} {N : Nd} {a : Option Addr} {n c : Nat} (h : OwnN w b N a n c) (hl : N.ks.length = 16) (M : Nd) (a' : Option Addr) (n' c' : Nat) (hm : M.ks.length = 16)
  (hgd : o.guard = none) (x y : Operand) (ho : o.op = .store 57 x y) (hx : act.eval x = .pointer (some ⟨b, 0, none⟩)) (hy : act.eval y = .agg (ndC M a' n' c')) (hd : o.dst = none)
  (hQ : ∀ w', OwnN w' b M a' n' c' → Rg.Upd w b w' → wpList Tryz.prog ops Q rest act w') : wpList Tryz.prog ops Q (o :: rest) act w :=
 wpl_store_nd h hl M a' n' c' hm hgd x y ho hx hy hd (hQ _ (own_rowN h) (Rg.Upd.set _ _ _))
theorem node_ext {L : Nat} (hL : L ≤ 64) (x y : Tr.In) (r : List Tr.In) (ok : Ok L (x :: y :: r)) (f : FineL (x :: y :: r)) (h0 : 0 < commonL (x :: y :: r)) (hE : EncC (L - commonL (x :: y :: r))) (a : Option Addr) (n c : Nat) (w : World) (h : IsIns w a n c (x :: y :: r)) (hn : n ≤ 1000000) :
  Calls Tryz.prog 21 #[.slice a n c] w (NodeP w (nodeT (build L (x :: y :: r)))) := by
 obtain ⟨w1, hw1, hO1, hb1, hs1⟩ := boxN w
 have hlen := h.len
 have hn2 : 2 ≤ n := by rw [← hlen]; simp
 obtain ⟨b, off, hd, rfl, hblt, hin, hbs⟩ := h.at' 0 (by omega)
 have hcl := common_lt ok
 have hall : ∀ z ∈ x :: y :: r, z.1.length = L := fun z hz => (ok.1 z hz).1
 have hNe : nodeT (build L (x :: y :: r)) = ⟨2, x.1.take (commonL (x :: y :: r)), eB, one16 (ref (build (L - commonL (x :: y :: r)) (restL (x :: y :: r) (commonL (x :: y :: r)))))⟩ := by
  rw [build, dif_pos ⟨h0, by omega⟩]; rfl
 have hok' := ok_rest ok (Nat.le_of_lt hcl) (fun z hz z' hz' => by rw [all_begin hz, all_begin hz'])
 have hx1 : ((x :: y :: r).getD 0 ([], eB)).1 = x.1 := rfl
 have hxl := hall x List.mem_cons_self
 rw [hx1] at hbs
 generalize x :: y :: r = l at *
 generalize x.1 = p at *
 obtain ⟨p0, p1, p2⟩ := hd
 simp only [Nat.zero_mul, Nat.add_zero] at hin
 have hc0 := hin.1
 dsimp only at hc0 hbs
 have hpl := hbs.len
 have hcp := hbs.1
 obtain ⟨K, hK⟩ : ∃ K, commonL l = K := ⟨_, rfl⟩
 have HC := hid (fun wz (hb : Below w.heap.size w wz) => common_any l (some ⟨b, off, none⟩) n c (fun z hz => by rw [hall z hz]; omega) (by omega) wz (h.below hb) hn)
 have HRs := hid (fun wz (hb : Below w.heap.size w wz) => rest_any l (some ⟨b, off, none⟩) n c K (fun z hz => by rw [hall z hz]; omega) wz (h.below hb) hn)
 rw [hK] at HC hok' hE h0 hcl hNe
 have HEn := hid (hE (restL l K) hok' (f.rest K))
 have HOf := hid (fun wz => r7of_any (encT (build (L - K) (restL l K))) (enc_few (by omega) hok' (f.rest K)) wz)
 rw [enc_ref] at HOf
 have hrl : (restL l K).length = n := by unfold restL; rw [List.length_map, hlen]
 have HRl := hid hrl
 obtain ⟨E, hE1⟩ : ∃ E, encT (build (L - K) (restL l K)) = E := ⟨_, rfl⟩
 obtain ⟨R, hR1⟩ : ∃ R, ref (build (L - K) (restL l K)) = R := ⟨_, rfl⟩
 rw [hE1] at HEn HOf
 rw [hR1] at HOf hNe
 have HBp := hid (bs_upto hbs K (by omega))
 have HNe := hid hNe
 have hKc : K ≤ p2 := by omega
 have hK0 : (0 : Int) < K := by omega
 have hcap := h.1
 have hmx := h.2.1
 unfold maxLen at hmx
 have hn0 : (0 : Int) < n := by omega
 have hnn : 0 < n := by omega
 have e0 : ((n : Int) == 0) = false := by simp; omega
 have e1 : ((n : Int) == 1) = false := by simp; omega
 have d0 : decide ((n : Int) = 0) = false := by simp; omega
 have d1 : decide ((n : Int) = 1) = false := by simp; omega
 have HO := hid hO1
 have HB := hid hb1
 have HW : Hid (_ = _) := hid hw1
 clear hO1 hb1 hw1 h hin hbs hE1 hR1 hrl hlen hok' hE hall ok f hx1 hNe hK hpl
 go_enter Tryz.func21, Tryz.ntmps21
 go_wp2_with (refine Rg.run rfl _ _ (run_alloc_nd _ _ _ w.heap.size rfl rfl) ?_)
 rw [← HW.out]
 clear HW
 refine (HC.out w1 HB.out).mono ?_
 rintro e w3 ⟨rfl, hb3⟩
 have HB3 := hid (bst HB.out hb3)
 have HO3 := hid (HO.out.below hb3)
 have k0 := cell_on (bst HB.out hb3) hc0
 have hNew := Rg.Own.new w3 (ndC nd0 none 0 0) 57
 have HN := hid hNew
 have hs3 := hb3.size
 clear hb3 HC HO hNew hc0
 go_wp2_with (first
  | (refine Rg.run rfl _ _ (op_upto (a := p0) (n := p1) (c := p2) (j := K) under_u8 size_u8 hKc ⟨_, _, rfl, rfl, rfl⟩) ?_)
  | (refine Rg.run rfl _ _ (op_build (built_path 2 p0 K p2 (p.take K)) ?_) ?_; · exact ⟨_, rfl, rfl⟩)
  | (refine Rg.run rfl _ _ (run_alloc_nd _ _ _ w3.heap.size rfl rfl) ?_)
  | (refine wpl_store_ndL HN.out rfl ⟨2, p.take K, eB, zks⟩ p0 K p2 rfl rfl _ _ rfl rfl rfl rfl ?_; intro w4 hO4 hu4; have HO4 := hid hO4; have HB4 : Hid (Below w3.heap.size w3 w4) := hid (hu4.below (al1 _ _) (Nat.le_refl _)); clear hO4 hu4))
 refine (HRs.out w4 (bst HB3.out HB4.out)).mono ?_
 rintro e w5 ⟨a5, n5, c5, rfl, hI5, hb5⟩
 have hn5 : n5 = n := by rw [← hI5.len]; exact HRl.out
 subst hn5
 have HI5 := hid hI5
 have HB5 := hid hb5
 clear hI5 hb5 HRs
 go_wp2_with fail
 refine (HEn.out a5 n5 c5 w5 HI5.out hn).mono ?_
 rintro e w6 ⟨rfl, hb6⟩
 have HB6 := hid (bst HB5.out hb6)
 clear hb6 HB5 HI5
 go_wp2_with fail
 refine (HOf.out w6).mono ?_
 rintro e w7 ⟨rfl, hb7⟩
 have HB7 := hid (bst HB6.out hb7)
 have HO7 := hid (HO4.out.below HB7.out)
 clear hb7 HB6
 go_wp2_with (first
  | (refine wpl_store_kidN HO7.out rfl (i := 0) (by decide) R rfl _ _ rfl rfl rfl ?_; intro w8 hO8 hu8; have HO8 : Hid (OwnN w8 w3.heap.size ⟨2, p.take K, eB, one16 R⟩ p0 K p2) := hid hO8; have HU8 := hid hu8; clear hO8 hu8)
  | (refine Rg.run rfl _ _ (op_load_nd HO8.out (one16_length R) ⟨_, rfl, rfl⟩) ?_)
  | (refine wpl_store_ndL (Rg.Own.upd (Rg.Own.below (Rg.Own.below HO3.out HB4.out) HB7.out) HU8.out (by omega)) rfl ⟨2, p.take K, eB, one16 R⟩ p0 K p2 (one16_length R) rfl _ _ rfl rfl rfl rfl ?_; intro w9 hO9 hu9; have HO9 := hid hO9; have HU9 := hid hu9; clear hO9 hu9))
 have HBe : Hid (Below w.heap.size w w9) := hid (HU9.out.below (HU8.out.below (bst (bst HB3.out HB4.out) HB7.out) (by have := HB3.out.size; omega)) (Nat.le_refl _))
 exact bodyPost_ret (res_nd1 (p := 2) (u := 3) rfl _ rfl HO9.out (one16_length R)) rfl ⟨p0, K, p2, by rw [HNe.out]; rfl, by rw [HNe.out]; exact HBp.out.below HBe.out, HBe.out⟩
theorem node_br {L : Nat} (hL : L ≤ 64) (x y : Tr.In) (r : List Tr.In) (ok : Ok L (x :: y :: r)) (f : FineL (x :: y :: r)) (h0 : commonL (x :: y :: r) = 0) (hE : EncC (L - 1)) (a : Option Addr) (n c : Nat) (w : World) (h : IsIns w a n c (x :: y :: r)) (hn : n ≤ 1000000) :
  Calls Tryz.prog 21 #[.slice a n c] w (NodeP w (nodeT (build L (x :: y :: r)))) := by
 obtain ⟨w1, hw1, hO1, hb1, hs1⟩ := boxN w
 have hlen := h.len
 have hn2 : 2 ≤ n := by rw [← hlen]; simp
 have hL0 : 0 < L := by have := common_lt ok; omega
 have hall : ∀ z ∈ x :: y :: r, z.1.length = L := fun z hz => (ok.1 z hz).1
 have hNe : nodeT (build L (x :: y :: r)) = ⟨3, [], eB, kids16 fun d => ref (build (L - 1) (restL (beginL (x :: y :: r) d) 1))⟩ := by
  rw [build, dif_neg (by omega), dif_pos hL0]; rfl
 generalize x :: y :: r = l at *
 have HC := hid (fun wz (hb : Below w.heap.size w wz) => common_any l a n c (fun z hz => by rw [hall z hz]; omega) (by omega) wz (h.below hb) hn)
 rw [h0] at HC
 have HBg := hid (fun (d : Fin 16) wz (hb : Below w.heap.size w wz) => begin_any l a n c d (fun z hz => by rw [hall z hz]; omega) wz (h.below hb) hn)
 have HRs := hid (fun (d : Fin 16) a' n' c' wz (hi : IsIns wz a' n' c' (beginL l d)) (h' : n' ≤ 1000000) => rest_any (beginL l d) a' n' c' 1 (fun z hz => by rw [hall z (mem_begin.1 hz).1]; omega) wz hi h')
 have HEn := hid (fun (d : Fin 16) => hE (restL (beginL l d) 1) (ok_begin ok hL0 d) ((f.begin d).rest 1))
 have HOf := hid (fun (d : Fin 16) wz => by have := r7of_any (encT (build (L - 1) (restL (beginL l d) 1))) (enc_few (by omega) (ok_begin ok hL0 d) ((f.begin d).rest 1)) wz; rw [enc_ref] at this; exact this)
 have HBl : Hid (∀ d : Fin 16, (beginL l d).length ≤ n) := hid (fun d => by
  have := begin_len l d n
  rwa [List.take_of_length_le (by omega)] at this)
 have HRl : Hid (∀ d : Fin 16, (restL (beginL l d) 1).length = (beginL l d).length) := hid (fun d => by unfold restL; rw [List.length_map])
 obtain ⟨ks, hks⟩ : ∃ ks, (kids16 fun d => ref (build (L - 1) (restL (beginL l d) 1))) = ks := ⟨_, rfl⟩
 have hkl : ks.length = 16 := by rw [← hks]; exact kids16_length _
 have hki : ∀ j (hj : j < 16), ref (build (L - 1) (restL (beginL l ⟨j, hj⟩) 1)) = ks.getD j eB := fun j hj => by
  rw [← hks]; exact (kids16_getD (fun d => ref (build (L - 1) (restL (beginL l d) 1))) ⟨j, hj⟩).symm
 rw [hks] at hNe
 have HKl := hid hkl
 have HKi := hid hki
 have HNe := hid hNe
 have hcap := h.1
 have hmx := h.2.1
 unfold maxLen at hmx
 have hn0 : (0 : Int) < n := by omega
 have hnn : 0 < n := by omega
 have e0 : ((n : Int) == 0) = false := by simp; omega
 have e1 : ((n : Int) == 1) = false := by simp; omega
 have d0 : decide ((n : Int) = 0) = false := by simp; omega
 have d1 : decide ((n : Int) = 1) = false := by simp; omega
 have HO := hid hO1
 have HB := hid hb1
 have HW : Hid (_ = _) := hid hw1
 clear hO1 hb1 hw1 h hlen hE hall ok f hNe hkl hki hks h0
 go_enter Tryz.func21, Tryz.ntmps21
 go_wp2_with (refine Rg.run rfl _ _ (run_alloc_nd _ _ _ w.heap.size rfl rfl) ?_)
 rw [← HW.out]
 clear HW
 refine (HC.out w1 HB.out).mono ?_
 rintro e w3 ⟨rfl, hb3⟩
 have HB3 := hid hb3
 have hNew := Rg.Own.new w3 (ndC nd0 none 0 0) 57
 have HN := hid hNew
 have hs3 := hb3.size
 clear hb3 HC hNew
 go_wp2_with (first
  | (refine Rg.run rfl _ _ (op_build (built_kd 3) ?_) ?_; · exact ⟨_, rfl, rfl⟩)
  | (refine Rg.run rfl _ _ (run_alloc_nd _ _ _ w3.heap.size rfl rfl) ?_)
  | (refine wpl_store_ndL HN.out rfl ⟨3, [], eB, zks⟩ none 0 0 rfl rfl _ _ rfl rfl rfl rfl ?_; intro w4 hO4 hu4; have HO4 := hid hO4; have HB4 : Hid (Below w3.heap.size w3 w4) := hid (hu4.below (al1 _ _) (Nat.le_refl _)); clear hO4 hu4))
 have HB4' : Hid (Below w1.heap.size w1 w4) := hid (bst HB3.out HB4.out)
 have HF4 : Hid (OwnN w4 w3.heap.size ⟨3, [], eB, firstR ks 0⟩ none 0 0) := hid (by rw [firstR_none]; exact HO4.out)
 clear HB3 HB4 HO4 HN
 obtain ⟨g, hg⟩ : ∃ g, w3.heap.size = g := ⟨_, rfl⟩
 rw [hg] at HF4 hs3 ⊢
 clear hg
 go_loopw [7] (fun i wr => ∃ j : Nat, j ≤ 16 ∧ i = .int .i64 j ∧ Hid (OwnN wr g ⟨3, [], eB, firstR ks j⟩ none 0 0) ∧ Hid (Below w1.heap.size w1 wr)) (fun i _ => 16 - (intOf i).toNat)
 case atStart => exact ⟨0, Nat.zero_le _, rfl, HF4, HB4'⟩
 case round =>
  obtain ⟨j, hj, rfl, HFr, HBr⟩ := hrel
  clear HF4 HB4'
  by_cases hlt : j < 16
  ·have hji : (j : Int) < 16 := by omega
   have HBw : Hid (Below w.heap.size w wr) := hid (bst HB.out HBr.out)
   have HS := hid (firstR_set HKl.out hlt)
   have HFl := hid (firstR_length HKl.out hj)
   go_wp2_with fail
   refine (HBg.out ⟨j, hlt⟩ wr HBw.out).mono ?_
   rintro e w5 ⟨a5, n5, c5, rfl, hI5, hb5⟩
   have hn5 : n5 ≤ 1000000 := by rw [← hI5.len]; exact Nat.le_trans (HBl.out ⟨j, hlt⟩) hn
   have hl5 := hI5.len
   have HI5 := hid hI5
   have HB5 := hid hb5
   clear hI5 hb5
   go_wp2_with fail
   refine (HRs.out ⟨j, hlt⟩ a5 n5 c5 w5 HI5.out hn5).mono ?_
   rintro e w6 ⟨a6, n6, c6, rfl, hI6, hb6⟩
   have hn6 : n6 ≤ 1000000 := by rw [← hI6.len, HRl.out, hl5]; exact hn5
   have HI6 := hid hI6
   have HB6 := hid (bst HB5.out hb6)
   clear hI6 hb6 HI5 HB5
   go_wp2_with fail
   refine (HEn.out ⟨j, hlt⟩ a6 n6 c6 w6 HI6.out hn6).mono ?_
   rintro e w7 ⟨rfl, hb7⟩
   have HB7 := hid (bst HB6.out hb7)
   have HOf7 := hid (HOf.out ⟨j, hlt⟩ w7)
   obtain ⟨E, hE⟩ : ∃ E, encT (build (L - 1) (restL (beginL l ⟨j, hlt⟩) 1)) = E := ⟨_, rfl⟩
   rw [HKi.out j hlt, hE] at HOf7
   rw [hE]
   obtain ⟨R, hR⟩ : ∃ R, ks.getD j eB = R := ⟨_, rfl⟩
   rw [hR] at HOf7 HS
   clear hb7 HB6 HI6 hE hR
   go_wp2_with fail
   refine HOf7.out.mono ?_
   rintro e w8 ⟨rfl, hb8⟩
   have HB8 := hid (bst HB7.out hb8)
   have HF8 := hid (HFr.out.below HB8.out)
   clear hb8 HB7 HOf7
   go_wp2_with (refine wpl_store_kidN HF8.out HFl.out (i := j) hlt R rfl _ _ rfl rfl rfl ?_; intro w9 hO9 hu9; have HO9 := hid hO9; have HU9 := hid hu9; clear hO9 hu9)
   have hge : w1.heap.size ≤ g := hs3
   go_roundw
   case rel => exact ⟨j + 1, by omega, by go_num, hid (by rw [← HS.out]; exact HO9.out), hid (HU9.out.below (HBr.out.trans (HB8.out.mono HBr.out.size)) hge)⟩
   case measure => simp [intOf]; omega
  ·obtain rfl : j = 16 := by omega
   have HF' : Hid (OwnN wr g ⟨3, [], eB, ks⟩ none 0 0) := hid (by have := HFr.out; rwa [firstR_all HKl.out] at this)
   clear HFr
   go_wp2_with (first
    | (refine Rg.run rfl _ _ (op_load_nd HF'.out HKl.out ⟨_, rfl, rfl⟩) ?_)
    | (refine wpl_store_ndL (Rg.Own.below HO.out HBr.out) rfl ⟨3, [], eB, ks⟩ none 0 0 HKl.out rfl _ _ rfl rfl rfl rfl ?_; intro w9 hO9 hu9; have HO9 := hid hO9; have HU9 := hid hu9; clear hO9 hu9))
   have HBe : Hid (Below w.heap.size w w9) := hid (HU9.out.below (bst HB.out HBr.out) (Nat.le_refl _))
   exact bodyPost_ret (res_nd1 (p := 2) (u := 3) rfl _ rfl HO9.out HKl.out) rfl ⟨none, 0, 0, by rw [HNe.out]; rfl, by rw [HNe.out]; exact IsBs.nil _, HBe.out⟩
theorem node_any {L : Nat} (hL : L ≤ 64) (ih : ∀ m, m < L → EncC m) {l : List Tr.In} (ok : Ok L l) (f : FineL l) (hne : l ≠ []) (a : Option Addr) (n c : Nat) (w : World) (h : IsIns w a n c l) (hn : n ≤ 1000000) :
  Calls Tryz.prog 21 #[.slice a n c] w (NodeP w (nodeT (build L l))) := by
 match l, hne with
 | [x], _ =>
  obtain rfl : n = 1 := h.len.symm
  have := node_one x a c w h
  rw [build]
  exact this
 | x :: y :: r, _ =>
  have hlt := common_lt ok
  by_cases h0 : 0 < commonL (x :: y :: r)
  ·exact node_ext hL x y r ok f h0 (ih _ (by omega)) a n c w h hn
  ·exact node_br hL x y r ok f (by omega) (ih _ (by omega)) a n c w h hn
theorem enc_of {L : Nat} (hL : L ≤ 64) (ih : ∀ m, m < L → EncC m) : EncC L := fun l ok f a n c w h hn => by
 by_cases hne : l = []
 ·subst hne
  obtain rfl : n = 0 := h.len.symm
  rw [build]
  have HC := hid (node_none a c w)
  clear h
  go_enter Tryz.func12, Tryz.ntmps12
  go_wp2_with fail
  refine HC.out.mono ?_
  rintro e w1 ⟨rfl, hb1⟩
  have HB1 := hid hb1
  have hNew := Rg.Own.new w1 (ndC nd0 none 0 0) 57
  have HN := hid hNew
  clear hb1 hNew
  go_wp2_with (first
   | (refine Rg.run rfl _ _ (run_alloc_nd _ _ _ w1.heap.size rfl rfl) ?_)
   | (refine wpl_store_ndL HN.out rfl nd0 none 0 0 rfl rfl _ _ rfl rfl rfl rfl ?_; intro w4 hO4 hu4; have HB4 : Hid (Below w1.heap.size w1 w4) := hid (hu4.below (al1 _ _) (Nat.le_refl _)); clear hO4 hu4))
  go_ret
  exact ⟨rfl, bst HB1.out HB4.out⟩
 ·have hb := build_ne ok hne
  have hs := full_stub (build_full L l)
  have hm := (may_tree _ L (good_build L l ok) hL (fine_build L l f) hb).1 hs
  have e : encT (build L l) = encN (nodeT (build L l)) := by
   cases hb' : build L l with
   | nil => exact absurd hb' hb
   | stub r => rw [hb'] at hs; exact absurd trivial hs
   | leaf p v => rfl
   | ext q t => rfl
   | br ks => rfl
  have HC := hid (node_any hL ih ok f hne a n c w h hn)
  have hl := nodeT_length (build L l)
  rw [e]
  generalize nodeT (build L l) = N at *
  have HM := hid hm
  have HL := hid hl
  clear h hm hl e hs hb
  go_enter Tryz.func12, Tryz.ntmps12
  go_wp2_with fail
  refine HC.out.mono ?_
  rintro e w1 ⟨a1, n1, c1, rfl, hp1, hb1⟩
  have HB1 := hid hb1
  have hNew := Rg.Own.new w1 (ndC nd0 none 0 0) 57
  have HN := hid hNew
  have HP := hid hp1
  clear hb1 hNew hp1 HC
  go_wp2_with (first
   | (refine Rg.run rfl _ _ (run_alloc_nd _ _ _ w1.heap.size rfl rfl) ?_)
   | (refine wpl_store_ndL HN.out rfl N a1 n1 c1 HL.out rfl _ _ rfl rfl rfl rfl ?_; intro w4 hO4 hu4; have HO4 := hid hO4; have HB4 : Hid (Below w1.heap.size w1 w4) := hid (hu4.below (al1 _ _) (Nat.le_refl _)); clear hO4 hu4)
   | (refine Rg.run rfl _ _ (op_load_nd HO4.out HL.out ⟨_, rfl, rfl⟩) ?_))
  refine (rput_of N a1 n1 c1 HL.out w4 (HP.out.below HB4.out) HM.out).mono ?_
  rintro e w5 ⟨rfl, hb5⟩
  have HB5 := hid (bst (bst HB1.out HB4.out) hb5)
  clear hb5
  go_wp2
  go_ret
  exact ⟨rfl, HB5.out⟩
theorem renc_any (L : Nat) : L ≤ 64 → EncC L := by
 induction L using Nat.strongRecOn with
 | ind L ih => exact fun hL => enc_of hL fun m hm => ih m hm (by omega)
end Tm
end
section
open Go.RowKit
namespace Tm
open Tr Rf Rl Ni No Pk Sm
theorem memo_eB {t : T} (hs : ¬ IsStub t) : memo0 t = eB := by
 cases t with
 | stub r => exact absurd trivial hs
 | _ => rfl
theorem kind_part {t : T} (hs : ¬ IsStub t) (hn : t ≠ .nil) : kindT t = 1 ∨ kindT t = 2 ∨ kindT t = 3 := by
 cases t with
 | stub r => exact absurd trivial hs
 | nil => exact absurd rfl hn
 | leaf q v => exact Or.inl rfl
 | ext q s => exact Or.inr (Or.inl rfl)
 | br ks => exact Or.inr (Or.inr rfl)
theorem ref_walk (b : Nat) (k : Int) (hk : k = 1 ∨ k = 2 ∨ k = 3) (r : ByteArray) (w : World) (hc : ∀ wx, Below w.heap.size w wx → wx.cell? ⟨b, 0, none⟩ = some (.int .i64 k)) (P : World → Prop)
  (hDo : ∀ w3, Below w.heap.size w w3 → w3.cell? ⟨w.heap.size, 0, none⟩ = some (.pointer (some ⟨b, 0, none⟩)) → Calls Tryz.prog 109 #[.pointer (some ⟨b, 4, none⟩), .func (.func 110) #[] #[.pointer (some ⟨w.heap.size, 0, none⟩)]] w3 fun e w' => e = .returned (.tuple #[]) ∧ w'.cell? ⟨w.heap.size, 0, none⟩ = some (.pointer (some ⟨b, 0, none⟩)) ∧ w'.cell? ⟨b, 7, none⟩ = some (.string r) ∧ P w') :
  Calls Tryz.prog 79 #[.agg #[.pointer (some ⟨b, 0, none⟩)]] w fun e w' => e = .returned (.string r) ∧ P w' := by
 have hmf : ∀ (fn : Fn) (first cap : Array Value) (w : World), (Instr.makeFunc fn first cap).run Tryz.prog w = .ok (.func fn first cap) w := fun _ _ _ _ => rfl
 have h0 := box_tree w (some ⟨b, 0, none⟩)
 have hA := al1 w (.cells #[.pointer (some ⟨b, 0, none⟩)] 26)
 have HK := hid (kind_cell b k _ (hc _ hA))
 have H3 : Hid (∀ w3, Below (w.alloc (.cells #[.pointer (some ⟨b, 0, none⟩)] 26)).heap.size (w.alloc (.cells #[.pointer (some ⟨b, 0, none⟩)] 26)) w3 → w3.cell? ⟨w.heap.size, 0, none⟩ = some (.pointer (some ⟨b, 0, none⟩)) ∧ Calls Tryz.prog 109 #[.pointer (some ⟨b, 4, none⟩), .func (.func 110) #[] #[.pointer (some ⟨w.heap.size, 0, none⟩)]] w3 fun e w' => e = .returned (.tuple #[]) ∧ w'.cell? ⟨w.heap.size, 0, none⟩ = some (.pointer (some ⟨b, 0, none⟩)) ∧ w'.cell? ⟨b, 7, none⟩ = some (.string r) ∧ P w') := hid (fun w3 hb3 =>
  ⟨cell_on hb3 h0, hDo w3 (bst hA hb3) (cell_on hb3 h0)⟩)
 clear hc hDo hA
 rcases hk with rfl | rfl | rfl
 all_goals
  go_enter Tryz.func79, Tryz.ntmps79
  go_wp2_with (refine Rg.run rfl _ _ (op_load_tree h0 ⟨_, rfl, rfl⟩) ?_)
  refine HK.out.mono ?_
  rintro e w3 ⟨rfl, hb3⟩
  obtain ⟨d0, HD⟩ := H3.out w3 hb3
  replace HD := hid HD
  clear hb3 H3 HK h0
  go_wp2_with fail
  refine HD.out.mono ?_
  rintro e w4 ⟨rfl, e0, e7, hP⟩
  have HP := hid hP
  clear hP HD d0
  go_wp2
  go_ret
  exact ⟨rfl, HP.out⟩
theorem ref_nil : RefC .nil := fun M w p hi ht hT => by
 obtain rfl : p = none := ht.nil_iff.2 rfl
 have h0 := box_tree w none
 have HE := hid (empty_any none ((w.alloc (.cells #[.pointer none] 26)).alloc (.cells #[.pointer none] 26)))
 have hA := al1 w (.cells #[.pointer none] 26)
 have HK : Hid (Calls Tryz.prog 58 #[.agg #[.pointer none]] (w.alloc (.cells #[.pointer none] 26)) fun e w' => e = .returned (.int .i64 0) ∧ Below (w.alloc (.cells #[.pointer none] 26)).heap.size (w.alloc (.cells #[.pointer none] 26)) w') := hid (kind_any M0 none .nil _ (Inv.zero _) rfl)
 have HF : Hid (∀ w3, Below (w.alloc (.cells #[.pointer none] 26)).heap.size (w.alloc (.cells #[.pointer none] 26)) w3 → FrN M (sz .nil + 1) w w3 ∧ InvN M (sz .nil + 1) w3) := hid (fun w3 hb3 => ⟨FrN.below M _ (bst hA hb3), hi.below (bst hA hb3)⟩)
 clear hi hT hA HE
 show Calls _ _ _ _ (fun e w' => e = .returned (.string eB) ∧ _)
 go_enter Tryz.func79, Tryz.ntmps79
 go_wp2_with (refine Rg.run rfl _ _ (op_load_tree h0 ⟨_, rfl, rfl⟩) ?_)
 refine HK.out.mono ?_
 rintro e w3 ⟨rfl, hb3⟩
 have HF3 := hid (HF.out w3 hb3)
 clear hb3 HF HK h0
 go_wp2
 go_ret
 exact ⟨rfl, HF3.out⟩
theorem stub_memo {M : Mp} {w : World} {b : Nat} {r : ByteArray} (h : IsPart M w b (.stub r)) : w.cell? ⟨b, 0, none⟩ = some (.int .i64 (-1)) ∧ w.cell? ⟨b, 7, none⟩ = some (.string r) := by
 obtain ⟨a, n, c, ka, kn, kc, d, r', hb, _, _, hd⟩ := h
 obtain ⟨⟨c0, _⟩, _, _, _, c7⟩ := part_cells hb
 rcases hd with ⟨_, hr⟩ | ⟨_, hs, _⟩
 ·rw [hr] at c7
  exact ⟨c0, c7⟩
 ·exact absurd trivial hs
theorem ref_stub (r : ByteArray) : RefC (.stub r) := fun M w p hi ht hT => by
 obtain ⟨b, rfl, hm⟩ := ht.at_ (fun e => by cases e)
 have hpart := (hi.part_ b _ hm).2.2.2 (by omega)
 obtain ⟨k0, k7⟩ := stub_memo hpart
 have h0 := box_tree w (some ⟨b, 0, none⟩)
 have hA := al1 w (.cells #[.pointer (some ⟨b, 0, none⟩)] 26)
 have HK := hid (kind_cell b (-1) _ (cell_on hA k0))
 have HF : Hid (∀ w3, Below (w.alloc (.cells #[.pointer (some ⟨b, 0, none⟩)] 26)).heap.size (w.alloc (.cells #[.pointer (some ⟨b, 0, none⟩)] 26)) w3 → w3.cell? ⟨w.heap.size, 0, none⟩ = some (.pointer (some ⟨b, 0, none⟩)) ∧ w3.cell? ⟨b, 7, none⟩ = some (.string r) ∧ FrN M (sz (.stub r) + 1) w w3 ∧ InvN M (sz (.stub r) + 1) w3) := hid (fun w3 hb3 => ⟨cell_on hb3 h0, cell_on hb3 (cell_on hA k7), FrN.below M _ (bst hA hb3), hi.below (bst hA hb3)⟩)
 clear hi hT hA hpart k0 k7 hm
 show Calls _ _ _ _ (fun e w' => e = .returned (.string r) ∧ _)
 go_enter Tryz.func79, Tryz.ntmps79
 go_wp2_with (refine Rg.run rfl _ _ (op_load_tree h0 ⟨_, rfl, rfl⟩) ?_)
 refine HK.out.mono ?_
 rintro e w3 ⟨rfl, hb3⟩
 obtain ⟨d0, d7, hF3⟩ := HF.out w3 hb3
 have HF3 := hid hF3
 clear hb3 HF HK h0 hF3
 go_wp2
 go_ret
 exact ⟨rfl, HF3.out⟩
theorem ref_part (t : T) (hs : ¬ IsStub t) (hn : t ≠ .nil) {L : Nat} (g : Tr.Good t L) (hL : L ≤ 64) (f : Fine t) (hR1 : ∀ q s, t = .ext q s → RefC s) (hR2 : ∀ ks, t = .br ks → ∀ i, RefC (ks i)) : RefC t := fun M w p hi ht hT => by
 obtain ⟨b, rfl, hm⟩ := ht.at_ hn
 have hpw := (hi.part_ b _ hm).2.2.2 (by omega)
 have hlb := hi.lt_ b (hi.part_ b _ hm).2.1
 obtain ⟨a, n, c, ka, kn, kc, d, r, hb, hBs, hKs, hd⟩ := hpw
 have hOw : Rg.Own w b (partC t a n c ka kn kc d r) 106 := ⟨hlb, hb⟩
 have hbody : Body M w b t a n c ka kn kc := by
  obtain ⟨⟨c0, c1, c2, c3⟩, _⟩ := part_cells hb
  exact ⟨c0, c1, c2, c3, hBs.1, hKs⟩
 refine ref_walk b (kindT t) (kind_part hs hn) (ref t) w (fun wx hbx => (hbody.below hbx).c0) (fun w' => FrN M (sz t + 1) w w' ∧ InvN M (sz t + 1) w') (fun w3 hb3 hbox => ?_)
 have hO3 := hOw.below hb3
 have hi3 := hi.below hb3
 rcases hd with ⟨rfl, hr⟩ | ⟨rfl, _, hr⟩
 ·-- not yet done
  rw [memo_eB hs] at hr
  subst hr
  have hT3 := hT.below hb3 hT.pos
  have hu5 := upd_setCell w3 b 5 (.int .i32 1)
  have hOl : Rg.Own (w3.setCell ⟨b, 5, none⟩ (.int .i32 1)) b (lockC t a n c ka kn kc eB) 106 := own_setCell (o := 5) hO3 (.int .i32 1)
  have hNl := lock_nobp hOl
  have hiN3 : InvN M (sz t) w3 := hi3.mono (Nat.le_succ _)
  have hil : InvN M (sz t) (w3.setCell ⟨b, 5, none⟩ (.int .i32 1)) := hiN3.lock hu5 hm (Nat.le_refl _) hNl
  have h0b : (0 : Nat) ≠ b := fun e => by
   have := tab_none hi3 hT3
   rw [e, hm] at this
   cases this
  have hTl : Tab (w3.setCell ⟨b, 5, none⟩ (.int .i32 1)) := fun i hi' => by
   rw [← hT3 i hi']
   exact World.cell?_of_block (w := w3) (hu5.block 0 h0b)
  have hbxb : w.heap.size ≠ b := by omega
  have hboxl : (w3.setCell ⟨b, 5, none⟩ (.int .i32 1)).cell? ⟨w.heap.size, 0, none⟩ = some (.pointer (some ⟨b, 0, none⟩)) := by
   rw [← hbox]
   exact World.cell?_of_block (w := w3) (hu5.block w.heap.size hbxb)
  have hbodyl : Body M (w3.setCell ⟨b, 5, none⟩ (.int .i32 1)) b t a n c ka kn kc := (hbody.below hb3).upd (hi3.part_ b t hm).2.2.1 hu5 (fun j hj => World.cell?_setCell_other _ ⟨b, 5, none⟩ ⟨b, j, none⟩ _ (fun e => by injection e with e1 e2 e3; omega))
  obtain ⟨h1, h2, h3, h4, h5, h6⟩ := tree_node g hL f hn hs
  have hE := enc_any M b t hm hs hn g hL f (w3.setCell ⟨b, 5, none⟩ (.int .i32 1)).drew (hil.below (below_drewN (Below.refl _ _) 1)) (hbodyl.below (below_drewN (Below.refl _ _) 1)) hTl hR1 hR2
  have hDo := do_ref M b t hm h3 w.heap.size _ hboxl hbxb hil hTl hOl hE
  have hD : ∀ wx, (callFunc 110 #[.pointer (some ⟨w.heap.size, 0, none⟩)]).run Tryz.prog wx = .ok (.enter 110 #[.pointer (some ⟨w.heap.size, 0, none⟩)]) wx := by intro wx; kernel_rfl
  refine (On.do_first 110 _ hD b 4 w3 (fun w' => ∃ w1, FrN M (sz t) (w3.setCell ⟨b, 5, none⟩ (.int .i32 1)) w1 ∧ InvN M (sz t) w1 ∧ Rg.Upd w1 b w' ∧ Rg.Own w' b (lockC t a n c ka kn kc (ofP (encT t))) 106) (own_cell (j := 4) hO3 rfl) (own_cell (j := 5) hO3 rfl) (own_free hO3) (hDo.mono ?_)).mono ?_
  ·rintro e w' ⟨rfl, w1, g1, g2, g3, g4⟩
   exact ⟨rfl, ⟨⟨own_cell (j := 4) g4 rfl, own_free g4⟩, own_cell (j := 5) g4 rfl, own_free g4⟩, w1, g1, g2, g3, g4⟩
  ·rintro e w' ⟨rfl, w2, ⟨w1, g1, g2, g3, g4⟩, rfl⟩
   rw [← ref_enc hs] at g4
   have hu6 := upd_setCell w2.drew b 4 (.int .u32 1)
   have hu7 := upd_setCell (w2.drew.setCell ⟨b, 4, none⟩ (.int .u32 1)) b 5 (.int .i32 0)
   have hO7 : Rg.Own ((w2.drew.setCell ⟨b, 4, none⟩ (.int .u32 1)).setCell ⟨b, 4 + 1, none⟩ (.int .i32 0)) b (partC t a n c ka kn kc 1 (ref t)) 106 := own_setCell (o := 5) (own_setCell (o := 4) g4.drew (.int .u32 1)) (.int .i32 0)
   obtain ⟨w7, hw7⟩ : ∃ w7, (w2.drew.setCell ⟨b, 4, none⟩ (.int .u32 1)).setCell ⟨b, 4 + 1, none⟩ (.int .i32 0) = w7 := ⟨_, rfl⟩
   rw [hw7] at hO7 ⊢
   have hu17 : Rg.Upd w1 b w7 := by
    rw [← hw7]
    exact ⟨g3.os, g3.tape, g3.output, by rw [hu7.size, hu6.size]; exact g3.size, fun k hk => ((hu7.block k hk).trans (hu6.block k hk)).trans (g3.block k hk)⟩
   have hchg : ∀ k, k < w3.heap.size → k ≠ b → (M.at_ k = none ∨ ∃ t', M.at_ k = some t' ∧ sz t ≤ sz t') → w7.heap[k]? = w3.heap[k]? := fun k hk hkb hc => (hu17.block k hkb).trans ((g1.block k (by rw [hu5.size]; exact hk) hc).trans (hu5.block k hkb))
   have hs37 : w3.heap.size ≤ w7.heap.size := by rw [hu17.size]; exact Nat.le_trans (by rw [hu5.size]; exact Nat.le_refl _) g1.size
   have hnb : M.at_ w.heap.size = none := hi.none_at (Nat.le_refl _)
   have hb7 : w7.cell? ⟨w.heap.size, 0, none⟩ = some (.pointer (some ⟨b, 0, none⟩)) := by
    rw [← hbox]
    exact World.cell?_of_block (w := w3) (hchg _ (World.block_lt_of_cell? w3 _ hbox) hbxb (Or.inl hnb))
   have hfr : FrN M (sz t + 1) w3 w7 := ⟨hu17.os.trans (g1.os.trans hu5.os), hu17.tape.trans (g1.tape.trans hu5.tape), hu17.output.trans (g1.output.trans hu5.output), hs37, fun k hk hc => by
    refine hchg k hk (fun e => ?_) (hc.imp id (fun ⟨t', e, hl⟩ => ⟨t', e, by omega⟩))
    subst e
    rcases hc with h | ⟨t', h, hl⟩
    ·rw [hm] at h; cases h
    ·rw [hm] at h
     obtain rfl := Option.some.inj h
     omega⟩
   have hN7 : NoBP w7 b := part_nobp hO7.2
   have hi7s : InvN M (sz t) w7 := g2.lock hu17 hm (Nat.le_refl _) hN7
   have hbyte : ∀ k j v, k < w3.heap.size → w3.cell? ⟨k, j, none⟩ = some v → ((∃ x, v = .int .u8 x) ∨ ∃ p, v = .pointer p) → w7.heap[k]? = w3.heap[k]? := fun k j v hk hc hv => by
    have hat : M.at_ k = none := by
     rcases hv with ⟨x, rfl⟩ | ⟨p, rfl⟩
     ·exact hi3.no_byte hc
     ·exact hi3.no_ptr hc
    exact hchg k hk (fun e => by rw [e, hm] at hat; cases hat) (Or.inl hat)
   refine ⟨rfl, hb7, own_cell (j := 7) hO7 rfl, (FrN.below M _ hb3).trans hfr, ⟨fun k hk => Nat.lt_of_lt_of_le (hi3.lt_ k hk) hs37, fun b' t' hm' => ?_⟩⟩
   obtain ⟨q1, q2, q3, q4⟩ := hi7s.part_ b' t' hm'
   refine ⟨q1, q2, q3, fun hl => ?_⟩
   by_cases hlt : sz t' < sz t
   ·exact q4 hlt
   ·have hp3 := (hi3.part_ b' t' hm').2.2.2 hl
    by_cases e : b' = b
    ·subst e
     obtain rfl : t = t' := by rw [hm] at hm'; exact Option.some.inj hm'
     refine ⟨a, n, c, ka, kn, kc, 1, ref t, hO7.2, ?_, ?_, Or.inr ⟨rfl, hs, rfl⟩⟩
     ·have hb3' := hBs
      refine ⟨⟨hBs.1.1, hBs.1.2.1, hBs.1.2.2.1, hBs.1.2.2.2.1, fun j hj => ?_⟩, hBs.2⟩
      obtain ⟨b2, off, e2, hlt2, hc2⟩ := (hBs.1.below hb3).2.2.2.2 j hj
      exact ⟨b2, off, e2, Nat.lt_of_lt_of_le hlt2 hs37, by rw [World.cell?_of_block (hbyte b2 _ _ hlt2 hc2 (Or.inl ⟨_, rfl⟩))]; exact hc2⟩
     ·refine ⟨hKs.1, hKs.2.1, hKs.2.2.1, hKs.2.2.2.1, fun j hj => ?_⟩
      obtain ⟨b2, off, p2, e2, hlt2, hf2, hc2, ht2⟩ := (hbody.below hb3).hk.at' j hj
      exact ⟨b2, off, p2, e2, Nat.lt_of_lt_of_le hlt2 hs37, hf2, by rw [World.cell?_of_block (hbyte b2 _ _ hlt2 hc2 (Or.inr ⟨_, rfl⟩))]; exact hc2, ht2⟩
    ·exact hp3.keep hs37 (hchg b' (hi3.lt_ b' q2) e (Or.inr ⟨t', hm', by omega⟩)) hbyte
 ·-- done already
  subst hr
  refine (On.do_done ⟨b, 4, none⟩ _ w3 (own_cell (j := 4) hO3 rfl)).mono ?_
  rintro e w' ⟨rfl, rfl⟩
  exact ⟨rfl, hbox, own_cell (j := 7) hO3 rfl, FrN.below M _ hb3, hi3⟩
theorem ref_any : ∀ (t : T) (L : Nat), Tr.Good t L → L ≤ 64 → Fine t → RefC t
 | .nil, _, _, _, _ => ref_nil
 | .stub r, _, _, _, _ => ref_stub r
 | .leaf q v, L, g, hL, f => ref_part _ (fun h => h) (fun e => by cases e) g hL f (fun _ _ e => by cases e) (fun _ e => by cases e)
 | .ext q s, L, g, hL, f => ref_part _ (fun h => h) (fun e => by cases e) g hL f (fun q' s' e => by
   injection e with _ e
   subst e
   exact ref_any s _ g.2.2.2.2 (by have := g.2.2.1; omega) f) (fun _ e => by cases e)
 | .br ks, L, g, hL, f => ref_part _ (fun h => h) (fun e => by cases e) g hL f (fun _ _ e => by cases e) (fun ks' e i => by
   injection e with e
   subst e
   exact ref_any (ks i) _ (g.2.2 i) (by omega) (f i))
end Tm
end
end Go.Proofs.YtooklabipgmolaaGreatDoor
