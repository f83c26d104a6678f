/-
 What must come at any rate in layer 8: awake.
-/
import Derived.Test.YtgolhnfkmmajpaaGreatDoorMb23
import Derived.Test.YtgolhnfkmmajpaaGreatDoorMb1
import Derived.ChangeSlices
import Derived.Lib.HexFns2
import Derived.Test.YtgolhnfkmmajpaaGreatDoorMb16
import Derived.Deep.Slices
import Derived.Test.YtgolhnfkmmajpaaGreatDoorMb15
import Derived.Test.YtgolhnfkmmajpaaGreatDoorMb7
open Go.Lib (hid)
set_option linter.unusedSimpArgs false
set_option linter.unusedVariables false
set_option maxHeartbeats 40000000
set_option maxRecDepth 100000
namespace Go.Proofs.YtgolhnfkmmajpaaGreatDoor
section
open Go.RowKit
namespace Tm
open Tr Ni Pk Ky No Rf Rl
open Sm (Tab)
def tB : T := putAll .nil lB
theorem litB : (rowP lB).toArray = pairA (kb, sy) := by simp [rowP, lB, pairA]
theorem run_alloc_key' (ev : Operand → Value) (o : Oper) (w : World) (b : Nat) (hb : b = w.heap.size) (ho : o.op = .alloc 28) : (execOp ev o).run Tryz.prog w = .ok (.value (.pointer (some ⟨b, 0, none⟩))) (w.alloc (.cells (kc zk) 28)) := by
 subst hb
 exact run_alloc_key ev o ho w
structure Aw (w0 : World) (M : Mp) (wz : World) (gu gb gn : Nat) (pu : Option Addr) (C : Array Value) (KB : List UInt8) : Prop where
 l : Lw w0 M wz
 u : IsT M pu tB
 bu : Bx M wz gu #[.pointer pu] 25
 kb : Rg.Own wz gb (kc KB) 28
 kl : KB.length = 32
 nd : Bx M wz gn C 58
 c0 : C[0]? = some (.int .i64 3)
namespace Aw
variable {w0 : World} {M M' : Mp} {w w' : World} {gu gb gn : Nat} {pu : Option Addr} {C : Array Value} {KB : List UInt8}
theorem s (h : Aw w0 M w gu gb gn pu C KB) : w.cell? ⟨gu, 0, none⟩ = some (.pointer pu) ∧ w.heap[gb]? = some (.cells (kc KB) 28 (0, 0)) ∧ w.cell? ⟨gn, 0, none⟩ = some (.int .i64 3) := ⟨own_cell (j := 0) h.bu.o rfl, h.kb.2, own_cell h.nd.o h.c0⟩
theorem below (h : Aw w0 M w gu gb gn pu C KB) (hb : Below w.heap.size w w') : Aw w0 M w' gu gb gn pu C KB := ⟨h.l.below hb, h.u, h.bu.below hb, h.kb.below hb, h.kl, h.nd.below hb, h.c0⟩
theorem fr (h : Aw w0 M w gu gb gn pu C KB) (hl : Lw w0 M' w') (f : Fr M M' w w') : Aw w0 M' w' gu gb gn pu C KB := ⟨hl, h.u.mono f.mono, h.bu.frm h.l.i f, own_byte_fr h.kb (kc_byte h.kl) h.l.i f, h.kl, h.nd.frm h.l.i f, h.c0⟩
theorem tell {s : ByteArray} {e : Ending} (h : Aw w0 M w gu gb gn pu C KB) (g : TellP M w s e w') : e = .returned (.string s) ∧ Aw w0 M w' gu gb gn pu C KB ∧ Fr M M w w' := by
 obtain ⟨he, hl, f⟩ := h.l.tell g
 exact ⟨he, h.fr hl f, f⟩
theorem got {t : T} {e : Ending} (h : Aw w0 M w gu gb gn pu C KB) (g : GotT M w t e w') : ∃ p M', e = .returned (tv p) ∧ IsT M' p t ∧ Aw w0 M' w' gu gb gn pu C KB := by
 obtain ⟨p, M', he, ht, hl, f, b⟩ := h.l.got g
 exact ⟨p, M', he, ht, h.fr hl f⟩
theorem encp (h : Aw w0 M w gu gb gn pu C KB) {p : Option Addr} (ht : IsT M p tB) : Calls Tryz.prog 15 #[tv p] w (TellP M w (encT tB)) := tree_enc M p tB 64 hasB.good (Nat.le_refl _) hasB.fine w h.l.i ht h.l.t
theorem enc (h : Aw w0 M w gu gb gn pu C KB) : Calls Tryz.prog 15 #[tv pu] w (TellP M w (encT tB)) := h.encp h.u
end Aw
theorem awake_any (w : World) (hT : Tab w) : Calls Tryz.prog 7 #[] w fun e w' => e = .returned (.bool true) ∧ Below w.heap.size w w' := by
 obtain ⟨w1, hw1⟩ : ∃ w1, w1 = (w.alloc (.cells (kc zk) 28)).alloc (.cells (kc zk) 28) := ⟨_, rfl⟩
 have hb1 : Below w.heap.size w w1 := by rw [hw1]; exact al2 _ _ _
 have hA : Rg.Own w1 w.heap.size (kc ka) 28 := by rw [hw1]; exact (Rg.Own.new _ _ _).below (al1 _ _)
 have hB : Rg.Own w1 (w.heap.size + 1) (kc zk) 28 := by
  have := Rg.Own.new (w.alloc (.cells (kc zk) 28)) (kc zk) 28
  rw [hw1]
  simpa using this
 have HL1 := hid ((Lw.start hT).below hb1)
 have HA1 := hid hA
 have HB1 := hid hB
 have HE0 : Hid (∃ E, encT tB = E ∧ E ≠ eB) := hid ⟨_, rfl, encB⟩
 obtain ⟨E, hE, hne2⟩ := HE0.out
 have HE := hid hE
 have hne1 : w.heap.size ≠ w.heap.size + 1 := by omega
 have hs1 : (E.toList == eB.toList) = false := by rw [str_eq, decide_eq_false hne2]
 have e0 : eB.toList = [] := by first | rfl | kernel_rfl | decide +kernel
 have hs2 : (E.toList == []) = false := by rw [← e0]; exact hs1
 have HAl := hid run_alloc_key'
 have HSet : Hid ((kc zk).setIfInBounds 0 (.int .u8 16) = kc kb) := hid (kc_set zk 0 16)
 have HBa := hid (built_pair ka sx ka_len)
 have HBb := hid (built_pair kb sy kb_len)
 have HLa : Hid (ka.length = 32) := hid ka_len
 have HLb : Hid (kb.length = 32) := hid kb_len
 have HZs : Hid ((kc zk).size = 32) := hid zk_size
 have HAll : Hid (∀ (b : Nat) w3, Rg.Own w3 b (rowP lAB).toArray 43 → Lw w M0 w3 → Calls Tryz.prog 19 #[.slice (some ⟨b, 0, none⟩) 2 2] w3 (GotT M0 w3 (putAll .nil lAB))) := hid (fun b w3 h hl => of_any M0 _ 2 2 lAB okAB w3 hl.i (isPs_lit (l := lAB) h okAB.1 (by decide)) (by decide))
 have HGet : Hid (∀ M p wz, Inv M wz → IsT M p (putAll .nil lAB) → Calls Tryz.prog 12 #[tv p, .agg (kc kb)] wz fun e w' => e = .returned (.tuple #[.string ⟨#[121]⟩, .int .i64 0]) ∧ Below wz.heap.size wz w') := hid (fun M p wz hi ht => by
  have := get_any M p _ kb kb_len wz hi ht hasAB.good
  rw [getAB_b] at this
  exact this)
 have HDel : Hid (∀ M p wz, Inv M wz → IsT M p (putAll .nil lAB) → Calls Tryz.prog 9 #[tv p, .agg (kc ka)] wz (GotTE M wz tB 0)) := hid (fun M p wz hi ht => by
  have := (del_any M p _ ka ka_len wz hi ht hasAB.good hasAB.full).2 ⟨_, getAB_a⟩
  rw [delAB] at this
  exact this)
 have HOp : Hid (∀ M p wz, Inv M wz → IsT M p (putAll .nil lAB) → Tab wz → Calls Tryz.prog 22 #[tv p] wz (OpenP M wz (putAll .nil lAB))) := hid (fun M p wz hi ht hT => open_any M p _ 64 hasAB.good (Nat.le_refl _) hasAB.fine (full_stub hasAB.full) wz hi ht hT)
 have HKd : Hid ((nodeT (putAll .nil lAB)).kd = 3 ∧ (nodeT (putAll .nil lAB)).ks.length = 16 ∧ (kidsT (putAll .nil lAB)).length = 2) := hid ⟨kindAB, nodeT_length _, kidsAB⟩
 have HLitB : Hid (∀ wz b, Rg.Own wz b (pairA (kb, sy)) 43 → IsPs wz (some ⟨b, 0, none⟩) 1 1 lB) := hid (fun wz b h => isPs_lit (l := lB) (by rw [litB]; exact h) okB.1 (by decide))
 have HOfB : Hid (∀ M wz a, Inv M wz → IsPs wz a 1 1 lB → Calls Tryz.prog 19 #[.slice a 1 1] wz (GotT M wz tB)) := hid (fun M wz a hi h => of_any M a 1 1 lB okB wz hi h (by decide))
 generalize putAll .nil lAB = TT at *
 clear hA hB hb1 hT hE HE0
 have HW : Hid (_ = _) := hid hw1
 clear hw1
 have HLit : Hid (rowP [(ka, sx), (kb, sy)] = rowP lAB) := hid rfl
 obtain ⟨ROW, hROW⟩ : ∃ R, rowP lAB = R := ⟨_, rfl⟩
 rw [hROW] at HAll HLit
 generalize ka = A at *
 generalize kb = B at *
 generalize zk = Z at *
 go_enter Tryz.func7, Tryz.ntmps7
 go_wp2_with (first
  | (refine Rg.run rfl _ _ (HAl.out _ _ _ w.heap.size rfl rfl) ?_)
  | (refine Rg.run rfl _ _ (HAl.out _ _ _ (w.heap.size + 1) (by simp) rfl) ?_)
  | (rw [← HW.out]; refine wpl_store_u8 HB1.out (by rw [HZs.out]; decide) 16 rfl _ _ rfl rfl rfl ?_; intro w2 hO2 hu2; have HB2 : Hid (Rg.Own w2 (w.heap.size + 1) (kc B) 28) := hid (by rw [← HSet.out]; exact hO2); have HA2 := hid (HA1.out.upd hu2 hne1); have HL2 := hid (HL1.out.upd hu2 (by omega) (fun h => h)); clear hO2 hu2)
  | (refine Rg.run rfl _ _ (op_load_key HLa.out HA2.out.2 ⟨_, rfl, rfl⟩) ?_)
  | (refine Rg.run rfl _ _ (op_load_key HLb.out HB2.out.2 ⟨_, rfl, rfl⟩) ?_)
  | (refine Rg.run rfl _ _ (op_build HBa.out ⟨_, rfl, rfl⟩) ?_)
  | (refine Rg.run rfl _ _ (op_build HBb.out ⟨_, rfl, rfl⟩) ?_)
  | (refine Rg.run rfl _ _ (op_lit_pairs (x := (A, sx)) (z := (B, sy)) HLa.out HLb.out w2.heap.size rfl ⟨_, _, rfl, rfl, rfl⟩) ?_))
 rw [HLit.out]
 have hL3 := HL2.out.below (al1 w2 (.cells ROW.toArray 43))
 refine (HAll.out w2.heap.size _ (Rg.Own.new _ _ _) hL3).mono ?_
 intro e w4 hG
 obtain ⟨p4, M4, rfl, hT4, hL4, hf4, hb4⟩ := hL3.got hG
 have HA4 := hid ((HA2.out.below (al1 _ _)).below hb4)
 have HB4 := hid ((HB2.out.below (al1 _ _)).below hb4)
 have HL4 := hid hL4
 have HT4 := hid hT4
 have hNew := Rg.Own.new w4 #[.pointer none] 25
 have HN := hid hNew
 have hz4 := hL4.b.size
 have hfr4 := hL4.i.free (Nat.le_refl _)
 clear hG hT4 hL4 hf4 hb4 hL3 HA1 HB1 HL1 HA2 HB2 HL2 HW HAl HSet HBa HAll HLit hNew
 go_wp2_with (first
  | (refine Rg.run rfl _ _ (run_alloc_tree _ _ _ w4.heap.size rfl rfl) ?_)
  | (refine wpl_store_tree HN.out (by decide) p4 rfl _ _ rfl rfl rfl ?_; intro w5 hO5 hu5; have HO5 := hid hO5; have HX5 : Hid (Below w4.heap.size w4 w5) := hid (hu5.below (al1 _ _) (Nat.le_refl _)); clear hO5 hu5)
  | (refine Rg.run rfl _ _ (op_load_tree (own_cell (j := 0) HO5.out rfl) ⟨_, rfl, rfl⟩) ?_)
  | (refine Rg.run rfl _ _ (op_load_key HLb.out (HB4.out.below HX5.out).2 ⟨_, rfl, rfl⟩) ?_))
 refine (HGet.out M4 p4 w5 (HL4.out.i.below HX5.out) HT4.out).mono ?_
 rintro e w6 ⟨rfl, hb6⟩
 have HX6 := hid (bst HX5.out hb6)
 have HL6 := hid (HL4.out.below HX6.out)
 have HA6 := hid (HA4.out.below HX6.out)
 have HB6 := hid (HB4.out.below HX6.out)
 have HO6 : Hid (Bx M4 w6 w4.heap.size #[.pointer p4] 25) := hid ⟨HO5.out.below hb6, hfr4, one_no _⟩
 clear hb6 HX6 HX5 HO5 HN HA4 HB4 HL4 HGet
 go_wp2_with (first
  | (refine Rg.run rfl _ _ (op_load_tree (own_cell (j := 0) HO6.out.o rfl) ⟨_, rfl, rfl⟩) ?_)
  | (refine Rg.run rfl _ _ (op_load_key HLa.out HA6.out.2 ⟨_, rfl, rfl⟩) ?_))
 refine (HDel.out M4 p4 w6 HL6.out.i HT4.out).mono ?_
 intro e w7 hG
 obtain ⟨p7, M7, rfl, hT7, hL7, hf7, hb7⟩ := HL6.out.te hG
 have HL7 := hid hL7
 have HU7 := hid hT7
 have HT7 := hid (HT4.out.mono hf7.mono)
 have HO7 := hid (HO6.out.got hf7 hb7)
 have HB7 := hid (HB6.out.below hb7)
 have hNew := Rg.Own.new w7 #[.pointer none] 25
 have HN := hid hNew
 have hfr7 := hL7.i.free (Nat.le_refl _)
 clear hG hT7 hL7 hf7 hb7 HL6 HA6 HB6 HO6 HT4 HDel hNew
 go_wp2_with (first
  | (refine Rg.run rfl _ _ (run_alloc_tree _ _ _ w7.heap.size rfl rfl) ?_)
  | (refine wpl_store_tree HN.out (by decide) p7 rfl _ _ rfl rfl rfl ?_; intro w8 hO8 hu8; have HO8 : Hid (Bx M7 w8 w7.heap.size #[.pointer p7] 25) := hid ⟨hO8, hfr7, one_no _⟩; have HX8 : Hid (Below w7.heap.size w7 w8) := hid (hu8.below (al1 _ _) (Nat.le_refl _)); clear hO8 hu8)
  | (refine Rg.run rfl _ _ (op_load_tree (own_cell (j := 0) (HO7.out.o.below HX8.out) rfl) ⟨_, rfl, rfl⟩) ?_))
 have hL8 := HL7.out.below HX8.out
 refine (HOp.out M7 p4 w8 hL8.i HT7.out hL8.t).mono ?_
 rintro e w9 ⟨a9, n9, c9, k9, kc9, ps, rfl, hp9, hP9, hA9, hk9, hf9, hi9, ht9⟩
 have hps : ps.length = 2 := by rw [hA9.1]; exact HKd.out.2.2
 have HL9 := hid (hL8.fr hf9 hi9 ht9)
 have HO9 := hid (HO8.out.frm hL8.i hf9)
 have HB9 := hid (own_byte_fr (HB7.out.below HX8.out) (kc_byte HLb.out) hL8.i hf9)
 have HNl := hid HKd.out.2.1
 have HKn := hid HKd.out.1
 have hNew := Rg.Own.new w9 (ndC nd0 none 0 0) 58
 have HN9 := hid hNew
 have hfr9 := hi9.free (Nat.le_refl _)
 rw [hps]
 generalize nodeT TT = N at *
 clear hp9 hP9 hA9 hk9 hf9 hi9 ht9 hL8 HL7 HO7 HO8 HB7 HT7 HX8 HOp HKd HN hNew hps
 go_wp2_with (first
  | (refine Rg.run rfl _ _ (run_alloc_nd _ _ _ w9.heap.size rfl rfl) ?_)
  | (refine wpl_store_ndL HN9.out rfl N a9 n9 c9 HNl.out rfl _ _ rfl rfl rfl rfl ?_; intro w10 hO10 hu10; have HX10 : Hid (Below w9.heap.size w9 w10) := hid (hu10.below (al1 _ _) (Nat.le_refl _)); have HA : Hid (Aw w M7 w10 w7.heap.size (w.heap.size + 1) w9.heap.size p7 (ndC N a9 n9 c9) B) := hid ⟨HL9.out.below HX10.out, HU7.out, HO9.out.below HX10.out, HB9.out.below HX10.out, HLb.out, ⟨hO10, hfr9, nd_no _ _ _ _⟩, by show some (Value.int .i64 N.kd) = _; rw [HKn.out]⟩; clear hO10 hu10))
 clear HX10 HL9 HU7 HO9 HB9 HN9 HNl HKn
 replace HA := hid (HA.out.below (show Below w10.heap.size w10 w10.drew from below_drewN (Below.refl _ _) 1))
 refine wp_region_noPanic ?_
 refine wp_region_held_drew (S := fun w' => w'.cell? ⟨w7.heap.size, 0, none⟩ = some (.pointer p7) ∧ w'.heap[w.heap.size + 1]? = some (.cells (kc B) 28 (0, 0)) ∧ w'.cell? ⟨w9.heap.size, 0, none⟩ = some (.int .i64 3)) (by kernel_rfl) (HA.out.s) (fun hld => ?_)
 refine Rg.tk (i := 0) rfl ?_
 try simp only [Act.put, Rg.s]
 refine Rg.tk (i := 1) rfl ?_
 try simp only [Act.put, Rg.s]
 refine Rg.tk (i := 2) rfl ?_
 try simp only [Act.put, Rg.s]
 refine Rg.tk (i := 3) rfl ?_
 try simp only [Act.put, Rg.s]
 refine Rg.tk (i := 4) rfl ?_
 try simp only [Act.put, Rg.s]
 refine Rg.tk (i := 5) rfl ?_
 try simp only [Act.put, Rg.s]
 refine Rg.tk (i := 6) rfl ?_
 try simp only [Act.put, Rg.s]
 refine Rg.tk (i := 7) rfl ?_
 try simp only [Act.put, Rg.s]
 refine Rg.tk (i := 8) rfl ?_
 try simp only [Act.put, Rg.s]
 refine Rg.tk (i := 9) rfl ?_
 try simp only [Act.put, Rg.s]
 refine Rg.tk (i := 10) rfl ?_
 try simp only [Act.put, Rg.s]
 refine Rg.tk (i := 11) rfl ?_ (hy := by intro wz hSw; (refine op_load_tree hSw.1 ?_; exact ⟨_, rfl, rfl⟩))
 try simp only [Act.put, Rg.s]
 refine Rg.tk (i := 13) rfl ?_ (hy := by intro wz hSw; (refine op_load_key HLb.out hSw.2.1 ?_; exact ⟨_, rfl, rfl⟩))
 try simp only [Act.put, Rg.s]
 refine Rg.tk (i := 14) rfl ?_ (hy := by intro wz hSw; (refine op_build HBb.out ?_; exact ⟨_, rfl, rfl⟩))
 try simp only [Act.put, Rg.s]
 refine wpAnyH_ready (rs := [12, 15]) (by kernel_rfl) (by simp) ?_
 refine Rg.readyC (i := 12) rfl (fun K hK => ?_) (Rg.readyL (i := 15) rfl (fun K hK => ?_))
 ·go_simp
  go_at_call 15
  (with_reducible refine (HA.out.enc).mono ?_)
  intro e wf hG
  obtain ⟨rfl, hA5, hf5⟩ := HA.out.tell hG
  rw [HE.out]
  replace HA := hid hA5
  clear hG hA5 hf5
  refine hK.out _ _ ?_ (fun hld => ?_)
  ·exact HA.out.s
  clear hK K
  try simp only [Act.put, Rg.s]
  refine Rg.rd (i := 15) rfl fun K hK => ?_
  refine meet_lit_pair (x := (B, sy)) HLb.out (by rfl) ⟨_, rfl, rfl⟩ ?_
  intro wc b5 hN hb5
  have HPs : Hid (IsPs wc (some ⟨b5, 0, none⟩) 1 1 lB) := hid (HLitB.out _ _ hN)
  replace HA := hid (HA.out.below hb5)
  clear hN hb5
  refine hK.out _ _ ?_ (fun hld => ?_)
  ·exact HA.out.s
  clear hK K
  try simp only [Act.put, Rg.s]
  refine Rg.rd (i := 16) rfl fun K hK => ?_
  go_simp
  go_at_call 19
  (with_reducible refine (HOfB.out _ _ _ HA.out.l.i HPs.out).mono ?_)
  intro e wb hG
  obtain ⟨pb, Mb, rfl, hTb, hAb⟩ := HA.out.got hG
  replace HA := hid hAb
  have HTb := hid hTb
  clear hG hAb hTb
  refine hK.out _ _ ?_ (fun hld => ?_)
  ·exact HA.out.s
  clear hK K
  try simp only [Act.put, Rg.s]
  refine Rg.rd (i := 17) rfl fun K hK => ?_
  go_simp
  go_at_call 15
  (with_reducible refine (HA.out.encp HTb.out).mono ?_)
  intro e wf hG
  obtain ⟨rfl, hA5, hf5⟩ := HA.out.tell hG
  rw [HE.out]
  replace HA := hid hA5
  clear hG hA5 hf5
  refine hK.out _ _ ?_ (fun hld => ?_)
  ·exact HA.out.s
  clear hK K
  try simp only [Act.put, Rg.s]
  refine Rg.tk (i := 18) rfl ?_
  try simp only [Act.put, Rg.s]
  refine Rg.tk (i := 19) rfl ?_
  try simp only [Act.put, Rg.s]
  refine Rg.tk (i := 20) rfl ?_
  try simp only [Act.put, Rg.s]
  refine Rg.tk (i := 21) rfl ?_
  try simp only [Act.put, Rg.s]
  refine Rg.tk (i := 22) rfl ?_ (hy := by intro wz hSw; (obtain ⟨hcc, hcd, hce⟩ := hSw; go_simp <;> with_reducible rfl))
  try simp only [Act.put, Rg.s]
  refine Rg.tk (i := 23) rfl ?_
  try simp only [Act.put, Rg.s]
  refine Rg.tk (i := 24) rfl ?_
  try simp only [Act.put, Rg.s]
  refine Rg.tk (i := 25) rfl ?_
  try simp only [Act.put, Rg.s]
  refine Rg.tk (i := 26) rfl ?_
  try simp only [Act.put, Rg.s]
  refine Rg.tk (i := 27) rfl ?_
  try simp only [Act.put, Rg.s]
  refine Rg.tk (i := 28) rfl ?_
  try simp only [Act.put, Rg.s]
  refine Rg.tk (i := 29) rfl ?_
  try simp only [Act.put, Rg.s]
  refine Rg.tk (i := 30) rfl ?_
  try simp only [Act.put, Rg.s]
  refine Rg.tk (i := 31) rfl ?_ (hy := by intro wz hSw; (refine op_load_tree hSw.1 ?_; exact ⟨_, rfl, rfl⟩))
  try simp only [Act.put, Rg.s]
  refine Rg.rd (i := 32) rfl fun K hK => ?_
  go_simp
  go_at_call 15
  (with_reducible refine (HA.out.enc).mono ?_)
  intro e wf hG
  obtain ⟨rfl, hA5, hf5⟩ := HA.out.tell hG
  rw [HE.out]
  replace HA := hid hA5
  clear hG hA5 hf5
  refine hK.out _ _ ?_ (fun hld => ?_)
  ·exact HA.out.s
  clear hK K
  try simp only [Act.put, Rg.s]
  refine Rg.tk (i := 33) rfl ?_ (hy := by intro wz hSw; have q2 := hne2; have q3 := hs1; have q4 := hs2; (try dsimp only at hSw); go_simp <;> with_reducible rfl)
  try simp only [Act.put, Rg.s]
  refine Rg.tk (i := 34) rfl ?_
  try simp only [Act.put, Rg.s]
  refine Rg.tk (i := 35) rfl ?_
  try simp only [Act.put, Rg.s]
  refine Rg.tk (i := 36) rfl ?_ (hy := by intro wz hSw; (refine op_build built_nil ?_; exact ⟨_, rfl, rfl⟩))
  try simp only [Act.put, Rg.s]
  refine Rg.rd (i := 37) rfl fun K hK => ?_
  go_simp
  go_at_call 10
  (with_reducible refine (empty_any none _).mono ?_)
  rintro e we ⟨rfl, hbe⟩
  replace HA := hid (HA.out.below hbe)
  clear hbe
  refine hK.out _ _ ?_ (fun hld => ?_)
  ·exact HA.out.s
  clear hK K
  try simp only [Act.put, Rg.s]
  refine Rg.tk (i := 38) rfl ?_
  try simp only [Act.put, Rg.s]
  refine Rg.tk (i := 39) rfl ?_
  try simp only [Act.put, Rg.s]
  refine wpAnyH_done (by kernel_rfl) ?_ _
  refine NoPanic.normal ?_
  go_wp2
  go_ret
  exact ⟨rfl, HA.out.l.b⟩
 ·refine meet_lit_pair (x := (B, sy)) HLb.out (by rfl) ⟨_, rfl, rfl⟩ ?_
  intro wc b5 hN hb5
  have HPs : Hid (IsPs wc (some ⟨b5, 0, none⟩) 1 1 lB) := hid (HLitB.out _ _ hN)
  replace HA := hid (HA.out.below hb5)
  clear hN hb5
  refine hK.out _ _ ?_ (fun hld => ?_)
  ·exact HA.out.s
  clear hK K
  try simp only [Act.put, Rg.s]
  refine Rg.rd (i := 12) rfl fun K hK => ?_
  go_simp
  go_at_call 15
  (with_reducible refine (HA.out.enc).mono ?_)
  intro e wf hG
  obtain ⟨rfl, hA5, hf5⟩ := HA.out.tell hG
  replace HPs := hid (HPs.out.frm HA.out.l.i hf5)
  rw [HE.out]
  replace HA := hid hA5
  clear hG hA5 hf5
  refine hK.out _ _ ?_ (fun hld => ?_)
  ·exact HA.out.s
  clear hK K
  try simp only [Act.put, Rg.s]
  refine Rg.rd (i := 16) rfl fun K hK => ?_
  go_simp
  go_at_call 19
  (with_reducible refine (HOfB.out _ _ _ HA.out.l.i HPs.out).mono ?_)
  intro e wb hG
  obtain ⟨pb, Mb, rfl, hTb, hAb⟩ := HA.out.got hG
  replace HA := hid hAb
  have HTb := hid hTb
  clear hG hAb hTb
  refine hK.out _ _ ?_ (fun hld => ?_)
  ·exact HA.out.s
  clear hK K
  try simp only [Act.put, Rg.s]
  refine Rg.rd (i := 17) rfl fun K hK => ?_
  go_simp
  go_at_call 15
  (with_reducible refine (HA.out.encp HTb.out).mono ?_)
  intro e wf hG
  obtain ⟨rfl, hA5, hf5⟩ := HA.out.tell hG
  rw [HE.out]
  replace HA := hid hA5
  clear hG hA5 hf5
  refine hK.out _ _ ?_ (fun hld => ?_)
  ·exact HA.out.s
  clear hK K
  try simp only [Act.put, Rg.s]
  refine Rg.tk (i := 18) rfl ?_
  try simp only [Act.put, Rg.s]
  refine Rg.tk (i := 19) rfl ?_
  try simp only [Act.put, Rg.s]
  refine Rg.tk (i := 20) rfl ?_
  try simp only [Act.put, Rg.s]
  refine Rg.tk (i := 21) rfl ?_
  try simp only [Act.put, Rg.s]
  refine Rg.tk (i := 22) rfl ?_ (hy := by intro wz hSw; (obtain ⟨hcc, hcd, hce⟩ := hSw; go_simp <;> with_reducible rfl))
  try simp only [Act.put, Rg.s]
  refine Rg.tk (i := 23) rfl ?_
  try simp only [Act.put, Rg.s]
  refine Rg.tk (i := 24) rfl ?_
  try simp only [Act.put, Rg.s]
  refine Rg.tk (i := 25) rfl ?_
  try simp only [Act.put, Rg.s]
  refine Rg.tk (i := 26) rfl ?_
  try simp only [Act.put, Rg.s]
  refine Rg.tk (i := 27) rfl ?_
  try simp only [Act.put, Rg.s]
  refine Rg.tk (i := 28) rfl ?_
  try simp only [Act.put, Rg.s]
  refine Rg.tk (i := 29) rfl ?_
  try simp only [Act.put, Rg.s]
  refine Rg.tk (i := 30) rfl ?_
  try simp only [Act.put, Rg.s]
  refine Rg.tk (i := 31) rfl ?_ (hy := by intro wz hSw; (refine op_load_tree hSw.1 ?_; exact ⟨_, rfl, rfl⟩))
  try simp only [Act.put, Rg.s]
  refine Rg.rd (i := 32) rfl fun K hK => ?_
  go_simp
  go_at_call 15
  (with_reducible refine (HA.out.enc).mono ?_)
  intro e wf hG
  obtain ⟨rfl, hA5, hf5⟩ := HA.out.tell hG
  rw [HE.out]
  replace HA := hid hA5
  clear hG hA5 hf5
  refine hK.out _ _ ?_ (fun hld => ?_)
  ·exact HA.out.s
  clear hK K
  try simp only [Act.put, Rg.s]
  refine Rg.tk (i := 33) rfl ?_ (hy := by intro wz hSw; have q2 := hne2; have q3 := hs1; have q4 := hs2; (try dsimp only at hSw); go_simp <;> with_reducible rfl)
  try simp only [Act.put, Rg.s]
  refine Rg.tk (i := 34) rfl ?_
  try simp only [Act.put, Rg.s]
  refine Rg.tk (i := 35) rfl ?_
  try simp only [Act.put, Rg.s]
  refine Rg.tk (i := 36) rfl ?_ (hy := by intro wz hSw; (refine op_build built_nil ?_; exact ⟨_, rfl, rfl⟩))
  try simp only [Act.put, Rg.s]
  refine Rg.rd (i := 37) rfl fun K hK => ?_
  go_simp
  go_at_call 10
  (with_reducible refine (empty_any none _).mono ?_)
  rintro e we ⟨rfl, hbe⟩
  replace HA := hid (HA.out.below hbe)
  clear hbe
  refine hK.out _ _ ?_ (fun hld => ?_)
  ·exact HA.out.s
  clear hK K
  try simp only [Act.put, Rg.s]
  refine Rg.tk (i := 38) rfl ?_
  try simp only [Act.put, Rg.s]
  refine Rg.tk (i := 39) rfl ?_
  try simp only [Act.put, Rg.s]
  refine wpAnyH_done (by kernel_rfl) ?_ _
  refine NoPanic.normal ?_
  go_wp2
  go_ret
  exact ⟨rfl, HA.out.l.b⟩
end Tm
end
section
open Go.RowKit Go.ChangeShapes Go.WideShapes
theorem u8_wf {n : Int} (h : (Lit.int .u8 n).wf = true) : 0 ≤ n ∧ n < 256 := by
 have := bounds_u8 h
 omega
end
section
open Go.RowKit Go.ChangeShapes Go.WideShapes
namespace Ky
def byteOf : Value → UInt8
 | .int _ n => UInt8.ofNat n.toNat
 | _ => 0
theorem isKey_of {H : Type} {enc : TypeId × Value → H} {P : Program} {w : World} {t e : TypeId} {v : Value} {d : DataW H} {p : List MemPlace} {base : Nat}
  (ht : P.underlying t = some (.array 32 e)) (he : P.underlying e = some (.int .u8)) (hc : P.cellsOf e = 1) (hct : P.cellsOf t = 32)
  (hv : Value.okWide P w .any base t v) (h : DataW.Trod enc P w 0 (fun _ => true) true t v d p) : ∃ k : List UInt8, v = .agg (kc k) ∧ k.length = 32 := by
 unfold Value.okWide at hv
 rw [ht] at hv
 obtain ⟨cs, rfl, hsz, _⟩ := hv
 rw [hct] at hsz
 obtain ⟨fuel, hf⟩ := h
 obtain ⟨xs, m, rfl, _, hcs, hxl, hel⟩ := DataW.trod_array ht hf
 have each : ∀ i, i < 32 → ∃ n : Int, cs.toList[i]? = some (.int .u8 n) ∧ 0 ≤ n ∧ n < 256 := fun i hi => by
  have hi' := hel i hi
  rw [hc, Nat.mul_one] at hi'
  have hx : i < xs.length := by omega
  rw [List.getElem?_eq_getElem hx] at hi'
  obtain ⟨n, hn, _, hw⟩ := DataW.trod_int he hi'
  have hlen : i < cs.toList.length := by simpa [hsz] using hi
  have e1 : (cs.toList.drop i).take 1 = [cs.toList[i]] := by
   rw [List.drop_eq_getElem_cons hlen]; rfl
  have e2 : (Value.agg cs).cells.toList = cs.toList := rfl
  rw [e2, e1] at hn
  injection hn with hn
  refine ⟨n, ?_, u8_wf hw⟩
  rw [List.getElem?_eq_getElem hlen, hn]
 refine ⟨cs.toList.map byteOf, ?_, by simp [hsz]⟩
 congr 1
 apply Array.ext'
 unfold kc
 rw [List.map_map]
 apply List.ext_getElem?
 intro i
 by_cases hi : i < 32
 ·obtain ⟨n, hn, h0, h1⟩ := each i hi
  rw [hn]
  simp only [List.getElem?_map, hn, Option.map_some, Function.comp, byteOf]
  have : ((UInt8.ofNat n.toNat).toNat : Int) = n := by simp only [UInt8.toNat_ofNat']; omega
  rw [this]
 ·rw [List.getElem?_eq_none (by simp [hsz]; omega), List.getElem?_eq_none (by simp [hsz]; omega)]
end Ky
end
section
open Go.RowKit Go.ChangeShapes Go.WideShapes Go.Deep
namespace Tm
open Tr Ni Pk Ky
section
variable {H : Type} {enc : TypeId × Value → H} {w : World} {fuel : Nat} {cs : List Value} {x : DataW H × List MemPlace}
theorem cells_key : Tryz.prog.cellsOf 28 = 32 := by kernel_rfl
theorem cells_u8' : Tryz.prog.cellsOf 5 = 1 := by kernel_rfl
theorem cells_str : Tryz.prog.cellsOf 9 = 1 := by kernel_rfl
theorem cells_pair : Tryz.prog.cellsOf 43 = 33 := by kernel_rfl
theorem key_of (h : DataW.trod enc Tryz.prog w 0 (fun _ => true) true fuel 28 cs = some x) : ∃ k : List UInt8, k.length = 32 ∧ cs = k.map fun b => Value.int .u8 b.toNat := by
 obtain ⟨xs, m, rfl, _, hcs, hxl, hel⟩ := DataW.trod_array Tryz.underlying28 h
 rw [cells_key] at hcs
 have each : ∀ i, i < 32 → ∃ n : Int, cs[i]? = some (.int .u8 n) ∧ 0 ≤ n ∧ n < 256 := fun i hi => by
  have hi' := hel i hi
  rw [cells_u8', Nat.mul_one] at hi'
  have hx : i < xs.length := by omega
  rw [List.getElem?_eq_getElem hx] at hi'
  obtain ⟨n, hn, _, hw⟩ := DataW.trod_int Tryz.underlying5 hi'
  have hlen : i < cs.length := by omega
  have e1 : (cs.drop i).take 1 = [cs[i]] := by
   rw [List.drop_eq_getElem_cons hlen]; rfl
  rw [e1] at hn
  injection hn with hn
  exact ⟨n, by rw [List.getElem?_eq_getElem hlen, hn], u8_wf hw⟩
 refine ⟨cs.map Ky.byteOf, by simp [hcs], ?_⟩
 rw [List.map_map]
 apply List.ext_getElem?
 intro i
 by_cases hi : i < 32
 ·obtain ⟨n, hn, h0, h1⟩ := each i hi
  rw [List.getElem?_map, hn]
  simp only [Option.map_some, Function.comp, Ky.byteOf]
  have : ((UInt8.ofNat n.toNat).toNat : Int) = n := by simp only [UInt8.toNat_ofNat']; omega
  rw [this]
 ·rw [List.getElem?_eq_none (by omega), List.getElem?_eq_none (by simp [hcs]; omega)]
theorem take_drop_one {cs : List Value} {i : Nat} {v : Value} (h : (cs.drop i).take 1 = [v]) (hl : cs.length = i + 1) : cs = cs.take i ++ [v] := by
 have e : (cs.drop i).take 1 = cs.drop i := List.take_of_length_le (by rw [List.length_drop]; omega)
 rw [← h, e, List.take_append_drop]
theorem pair_of (h : DataW.trod enc Tryz.prog w 0 (fun _ => true) true fuel 43 cs = some x) : ∃ y : Tr.Pair, y.1.length = 32 ∧ cs = pairC y := by
 obtain ⟨xs, m, rfl, _, hcs, hxl, hf⟩ := DataW.trod_struct Tryz.underlying43 h
 rw [cells_pair] at hcs
 have hxl' : xs.length = 2 := hxl
 have g0 := hf 0 _ rfl
 have g1 := hf 1 _ rfl
 rw [List.getElem?_eq_getElem (by omega)] at g0 g1
 obtain ⟨k, hk, e0⟩ := key_of g0
 obtain ⟨s, e1, _, _⟩ := DataW.trod_string Tryz.underlying9 g1
 have e0' : (cs.drop 0).take (Tryz.prog.cellsOf 28) = k.map fun b => Value.int .u8 b.toNat := e0
 have e1' : (cs.drop 32).take (Tryz.prog.cellsOf 9) = [Value.string s] := e1
 rw [cells_key, List.drop_zero] at e0'
 rw [cells_str] at e1'
 refine ⟨(k, s), hk, ?_⟩
 unfold pairC
 have := take_drop_one e1' (by omega)
 rw [this, e0']
theorem isPs_of (h : DataW.trod enc Tryz.prog w 0 (fun _ => true) true fuel 26 cs = some x) : ∃ a n cap l, cs = [.slice a n cap] ∧ IsPs w a n cap l := by
 rcases open_slice Tryz.underlying26 h with ⟨rfl, _⟩ | ⟨ad, len, cap, m, n, D, Pl, rfl, _, hl, hm, hmm, _, hel⟩
 ·exact ⟨none, 0, 0, [], rfl, IsPs.nil w⟩
 ·have hmm' : m = cap := by simpa using hmm
  subst hmm'
  have cell : ∀ i, i < m → ∃ y : Tr.Pair, y.1.length = 32 ∧ ∀ j, j < 33 → w.cell? ((ad.add (i * 33)).add j) = (pairC y)[j]? := fun i hi => by
   obtain ⟨cs', h1, h2⟩ := hel i hi
   obtain ⟨y, hy, rfl⟩ := pair_of h2
   obtain ⟨_, hcl, hat⟩ := World.cells?_some h1
   rw [cells_pair] at hat
   exact ⟨y, hy, hat⟩
  obtain ⟨F, hF⟩ := choose_lt (α := Tr.Pair) cell
  refine ⟨some ad, len, m, (List.range len).map F, rfl, hl, hm, by simp, fun e => (by cases e), fun x hx => ?_, fun j hj => ?_⟩
  ·obtain ⟨i, hi, rfl⟩ := List.mem_map.1 hx
   exact (hF i (by have := List.mem_range.1 hi; omega)).1
  ·have hFj := hF j (by omega)
   have hF0 := hF 0 (by omega)
   obtain ⟨b, off, spot⟩ := ad
   have hc0 := hF0.2 0 (by omega)
   have hp0 : (pairC (F 0))[0]? = some ((pairC (F 0))[0]'(by rw [pairC_len hF0.1]; omega)) := List.getElem?_eq_getElem _
   rw [hp0] at hc0
   have hspot : spot = none := by simpa [Addr.add] using World.cell?_spot hc0
   subst hspot
   have hget : ((List.range len).map F).getD j ([], eB) = F j := by simp [List.getD, hj]
   rw [hget]
   have hat : PairAt w b (off + j * 33) (F j) := fun i v hv => by
    have hi : i < 33 := by
     have := (List.getElem?_eq_some_iff.1 hv).1
     rwa [pairC_len hFj.1] at this
    have := hFj.2 i hi
    rw [Addr.add_mid, Addr.add_mid] at this
    rw [this, hv]
   refine ⟨b, off, rfl, ?_, hat⟩
   have hz := hat 0 ((pairC (F j))[0]'(by rw [pairC_len hFj.1]; omega)) (List.getElem?_eq_getElem _)
   exact World.block_lt_of_cell? w _ hz
end
end Tm
end
section
open Go.RowKit
namespace Tm
open Tr Ni Pk Ky No Rf Rl
open Sm (Tab)
end Tm
end
section
open Go.RowKit
namespace Tm
open Tr Ni Pk Ky No Rf Rl
open Sm (Tab)
end Tm
end
section
namespace Tr
open Rf Rl Ni No
def sv : ByteArray := ⟨#[118]⟩
def fixP (x : Pair) : Pair := (x.1, if x.2.size = 0 then sv else if 100 < x.2.size then x.2.extract 0 100 else x.2)
def pairsL (l : List Pair) : List Pair := (l.take 24).map fixP
theorem fix_size (x : Pair) : (fixP x).2.size ≠ 0 ∧ (fixP x).2.size ≤ 65552 := by
 unfold fixP
 dsimp only
 split
 ·exact ⟨by decide, by decide⟩
 ·split
  ·rw [ByteArray.size_extract]; omega
  ·omega
theorem pairs_len (l : List Pair) : (pairsL l).length ≤ 24 := by
 unfold pairsL
 rw [List.length_map, List.length_take]
 omega
theorem pairs_ok {l : List Pair} (h : ∀ x ∈ l, x.1.length = 32) : (∀ x ∈ pairsL l, x.1.length = 32) ∧ ∀ x ∈ pairsL l, x.2.size ≠ 0 ∧ x.2.size ≤ 65552 := by
 constructor
 ·intro x hx
  obtain ⟨y, hy, rfl⟩ := List.mem_map.1 hx
  exact h y (List.mem_of_mem_take hy)
 ·intro x hx
  obtain ⟨y, _, rfl⟩ := List.mem_map.1 hx
  exact fix_size y
end Tr
end
end Go.Proofs.YtgolhnfkmmajpaaGreatDoor
