/-
 Contracts of sum.turner and of what it makes.
-/
import Derived.Test.YtooklabipgmolaaGreatDoorMr9
import Derived.Deep.QuietTactic
import Derived.BigQuiet
open Go.Lib (hid)
set_option linter.unusedSimpArgs false
set_option linter.unusedVariables false
set_option maxHeartbeats 40000000
set_option maxRecDepth 100000
namespace Go.Proofs.YtooklabipgmolaaGreatDoor
section
open Go.RowKit
namespace Sm
open Sh
theorem not_sub (e : Nat) (he : e < 4294967296) : 4294967295 ^^^ e = 4294967295 - e := by
 apply Nat.eq_of_testBit_eq
 intro i
 have h := Nat.testBit_two_pow_sub_succ (n := 32) (x := e) he i
 rw [show 2 ^ 32 - (e + 1) = 4294967295 - e by omega] at h
 have h1 := Nat.testBit_two_pow_sub_one (n := 32) (i := i)
 rw [show 2 ^ 32 - 1 = 4294967295 by rfl] at h1
 rw [Nat.testBit_xor, h, h1]
 by_cases hi : i < 32
 ·simp [hi]
 ·have : e.testBit i = false := Nat.testBit_lt_two_pow (Nat.lt_of_lt_of_le he (Nat.pow_le_pow_right (n := 2) (by omega) (show 32 ≤ i by omega)))
  simp [hi, this]
theorem pick_xor (e f g : Nat) (he : e < 4294967296) : (e &&& f) ^^^ ((4294967295 - e) &&& g) = pickN e f g := by
 unfold pickN
 rw [← not_sub e he]
 apply Nat.eq_of_testBit_eq
 intro i
 have h1 := Nat.testBit_two_pow_sub_one (n := 32) (i := i)
 rw [show 2 ^ 32 - 1 = 4294967295 by rfl] at h1
 simp only [Nat.testBit_xor, Nat.testBit_and, Nat.testBit_or, h1]
 by_cases hi : i < 32
 ·simp only [hi, decide_true]
  cases e.testBit i <;> cases f.testBit i <;> cases g.testBit i <;> rfl
 ·have : e.testBit i = false := Nat.testBit_lt_two_pow (Nat.lt_of_lt_of_le he (Nat.pow_le_pow_right (n := 2) (by omega) (show 32 ≤ i by omega)))
  simp [hi, this]
theorem most_xor (a b c : Nat) : (a &&& b) ^^^ (a &&& c) ^^^ (b &&& c) = mostN a b c := by
 unfold mostN
 apply Nat.eq_of_testBit_eq
 intro i
 simp only [Nat.testBit_xor, Nat.testBit_and, Nat.testBit_or]
 cases a.testBit i <;> cases b.testBit i <;> cases c.testBit i <;> rfl
theorem ac_set8 (x0 x1 x2 x3 x4 x5 x6 x7 v0 v1 v2 v3 v4 v5 v6 v7 : Nat) :
  ((((((((ac [x0, x1, x2, x3, x4, x5, x6, x7]).setIfInBounds 0 (.int .u32 v0)).setIfInBounds 1 (.int .u32 v1)).setIfInBounds 2 (.int .u32 v2)).setIfInBounds 3 (.int .u32 v3)).setIfInBounds 4 (.int .u32 v4)).setIfInBounds 5 (.int .u32 v5)).setIfInBounds 6 (.int .u32 v6)).setIfInBounds 7 (.int .u32 v7)
   = ac [v0, v1, v2, v3, v4, v5, v6, v7] := by
 simp [ac]
theorem drewg {w w1 : World} {r : Option Nat} (h : w.grownBy w1 r) : w.grownBy w1.drew r := ⟨h.os, h.tape, h.output, h.size, h.block⟩
theorem setg {w w1 : World} {g : Nat} {j : Nat} (v : Value) (h : w.grownBy w1 (some g)) : w.grownBy (w1.setCell ⟨g, j, none⟩ v) (some g) :=
 ⟨h.os, h.tape, h.output, by have := h.size; simp; omega, fun k hk hne => (heap_setCell_other _ _ _ _ (by simpa using hne)).trans (h.block k hk hne)⟩
theorem turner_any (n x : Nat) (w : World) :
  Calls Tryz.prog 96 #[.int .u32 n, .int .u32 x] w fun e w' => e = .returned (.func (Fn.func 124) #[] #[.pointer (some ⟨w.heap.size, 0, none⟩), .pointer (some ⟨w.heap.size + 1, 0, none⟩)]) ∧ w' = (w.alloc (.cells #[.int .u32 n] 96)).alloc (.cells #[.int .u32 x] 96) := by
 go_enter Tryz.func96, Tryz.ntmps96
 go_wp2
 go_ret
 exact ⟨rfl, rfl⟩
theorem round_any (g bn bw kk wk x0 x1 x2 x3 x4 x5 x6 x7 : Nat) (b0 : x0 < 4294967296) (b1 : x1 < 4294967296) (b2 : x2 < 4294967296) (b4 : x4 < 4294967296) (b5 : x5 < 4294967296) (b6 : x6 < 4294967296)
  (w : World) (hg : w.heap[g]? = some (.cells (ac [x0, x1, x2, x3, x4, x5, x6, x7]) 119 (0, 0))) (hn : w.cell? ⟨bn, 0, none⟩ = some (.int .u32 kk)) (hw : w.cell? ⟨bw, 0, none⟩ = some (.int .u32 wk)) :
  Calls Tryz.prog 124 #[.pointer (some ⟨g, 0, none⟩), .pointer (some ⟨bn, 0, none⟩), .pointer (some ⟨bw, 0, none⟩)] w fun e w' => e = .returned (.tuple #[]) ∧ w'.heap[g]? = some (.cells (ac (roundL kk wk [x0, x1, x2, x3, x4, x5, x6, x7])) 119 (0, 0)) ∧ w.grownBy w' (some g) := by
 have c0 : w.cell? ⟨g, 0, none⟩ = some (.int .u32 x0) := cell_of_row w g 0 _ _ _ hg
 have c1 : w.cell? ⟨g, 1, none⟩ = some (.int .u32 x1) := cell_of_row w g 1 _ _ _ hg
 have c2 : w.cell? ⟨g, 2, none⟩ = some (.int .u32 x2) := cell_of_row w g 2 _ _ _ hg
 have c3 : w.cell? ⟨g, 3, none⟩ = some (.int .u32 x3) := cell_of_row w g 3 _ _ _ hg
 have c4 : w.cell? ⟨g, 4, none⟩ = some (.int .u32 x4) := cell_of_row w g 4 _ _ _ hg
 have c5 : w.cell? ⟨g, 5, none⟩ = some (.int .u32 x5) := cell_of_row w g 5 _ _ _ hg
 have c6 : w.cell? ⟨g, 6, none⟩ = some (.int .u32 x6) := cell_of_row w g 6 _ _ _ hg
 have c7 : w.cell? ⟨g, 7, none⟩ = some (.int .u32 x7) := cell_of_row w g 7 _ _ _ hg
 have fz : ∀ j, w.frozen? ⟨g, j, none⟩ = false := fun j => frozen_of_row w g j _ _ hg
 have HG := sec hg
 have HFZ := sec fz
 clear hg fz
 go_enter Tryz.func124, Tryz.ntmps124
 go_wp2_with fail
 go_quiet (fail)
 obtain ⟨n1, rfl⟩ : ∃ n, n = nq := ⟨_, rfl⟩
 go_wp2_with fail
 go_quiet (fail)
 obtain ⟨n2, rfl⟩ : ∃ n, n = nq := ⟨_, rfl⟩
 have hpk := pickN_lt x4 x5 x6 b4
 have A1 := u32_and_nat x4 x5 b4 b5
 have A2 := u32_xor_nat 4294967295 x4 (by omega) b4
 rw [not_sub x4 b4] at A2
 have A3 := u32_and_nat (4294967295 - x4) x6 (by omega) b6
 have A4 := u32_xor_nat (x4 &&& x5) ((4294967295 - x4) &&& x6) (Nat.lt_of_le_of_lt Nat.and_le_left b4) (Nat.lt_of_le_of_lt Nat.and_le_left (by omega))
 rw [pick_xor x4 x5 x6 b4] at A4
 have A2 : bits .xor .u32 IntKind.u32.max (x4 : Int) = ((4294967295 - x4 : Nat) : Int) := A2
 obtain ⟨pk, hpke⟩ : ∃ p, pickN x4 x5 x6 = p := ⟨_, rfl⟩
 rw [hpke] at hpk A4
 have HPK := sec hpke
 clear hpke
 obtain ⟨m4, hm4⟩ : ∃ p, 4294967295 - x4 = p := ⟨_, rfl⟩
 rw [hm4] at A2 A3 A4
 clear hm4
 generalize x4 &&& x5 = p1 at A1 A4
 generalize m4 &&& x6 = p2 at A3 A4
 go_wp2_with fail
 clear A1 A2 A3 A4
 have HT1 := hid (right_any x4 6 6 rfl b4 (by omega) (by omega))
 have HT2 := hid (right_any x4 11 11 rfl b4 (by omega) (by omega))
 have HT3 := hid (right_any x4 25 25 rfl b4 (by omega) (by omega))
 have e1 := u32_xor_nat (turnN x4 6) (turnN x4 11) (turnN_lt 6 x4 b4) (turnN_lt 11 x4 b4)
 have e2 := u32_xor_nat (turnN x4 6 ^^^ turnN x4 11) (turnN x4 25) (Nat.xor_lt_two_pow (n := 32) (turnN_lt 6 x4 b4) (turnN_lt 11 x4 b4)) (turnN_lt 25 x4 b4)
 have hq : turnN x4 6 ^^^ turnN x4 11 ^^^ turnN x4 25 = bs1 x4 := rfl
 rw [hq] at e2
 have tB1 := bs1_lt x4 b4
 obtain ⟨B1, hB1⟩ : ∃ y, bs1 x4 = y := ⟨_, rfl⟩
 rw [hB1] at e2 tB1
 have HB1 := sec hB1
 clear hB1 hq
 generalize turnN x4 6 ^^^ turnN x4 11 = y1 at e1 e2
 generalize turnN x4 6 = a1 at HT1 e1
 generalize turnN x4 11 = a2 at HT2 e1
 generalize turnN x4 25 = a3 at HT3 e2
 have HX : Sec ((x7 + B1 + pk + kk + wk) % 4294967296 = ((((x7 + B1) % 4294967296 + pk) % 4294967296 + kk) % 4294967296 + wk) % 4294967296) := sec (by omega)
 have v1 : IntKind.u32.wrap ((x7 : Int) + B1) = ((x7 + B1) % 4294967296 : Nat) := by rw [IntKind.wrap_u32']; omega
 have v2 : IntKind.u32.wrap ((((x7 + B1) % 4294967296 : Nat) : Int) + pk) = (((x7 + B1) % 4294967296 + pk) % 4294967296 : Nat) := by rw [IntKind.wrap_u32']; omega
 have v3 : IntKind.u32.wrap (((((x7 + B1) % 4294967296 + pk) % 4294967296 : Nat) : Int) + kk) = ((((x7 + B1) % 4294967296 + pk) % 4294967296 + kk) % 4294967296 : Nat) := by rw [IntKind.wrap_u32']; omega
 have v4 : IntKind.u32.wrap ((((((x7 + B1) % 4294967296 + pk) % 4294967296 + kk) % 4294967296 : Nat) : Int) + wk) = (((((x7 + B1) % 4294967296 + pk) % 4294967296 + kk) % 4294967296 + wk) % 4294967296 : Nat) := by rw [IntKind.wrap_u32']; omega
 obtain ⟨s1, h1⟩ : ∃ s, (x7 + B1) % 4294967296 = s := ⟨_, rfl⟩
 rw [h1] at v1 v2 v3 v4 HX
 obtain ⟨s2, h2⟩ : ∃ s, (s1 + pk) % 4294967296 = s := ⟨_, rfl⟩
 rw [h2] at v2 v3 v4 HX
 obtain ⟨s3, h3⟩ : ∃ s, (s2 + kk) % 4294967296 = s := ⟨_, rfl⟩
 rw [h3] at v3 v4 HX
 have hXb : (s3 + wk) % 4294967296 < 4294967296 := Nat.mod_lt _ (by omega)
 obtain ⟨X, hX⟩ : ∃ s, (s3 + wk) % 4294967296 = s := ⟨_, rfl⟩
 rw [hX] at v4 HX hXb
 clear h1 h2 h3 hX
 refine wp_region_noPanic ?_
 refine wp_region_held_drew (S := fun w' => w'.cell? ⟨bn, 0, none⟩ = some (.int .u32 (kk : Nat)) ∧ w'.cell? ⟨bw, 0, none⟩ = some (.int .u32 (wk : Nat))) (by kernel_rfl) (⟨hn, hw⟩) (fun hld => ?_)
 refine Rg.tk (i := 0) rfl ?_
 try simp only [Act.put, Rg.s]
 refine Rg.tk (i := 1) rfl ?_
 try simp only [Act.put, Rg.s]
 refine Rg.tk (i := 3) rfl ?_
 try simp only [Act.put, Rg.s]
 refine Rg.tk (i := 6) rfl ?_
 try simp only [Act.put, Rg.s]
 refine Rg.tk (i := 10) rfl ?_
 try simp only [Act.put, Rg.s]
 refine Rg.tk (i := 12) rfl ?_
 try simp only [Act.put, Rg.s]
 refine Rg.tk (i := 14) rfl ?_
 try simp only [Act.put, Rg.s]
 refine Rg.rd (i := 2) rfl fun K hK => ?_
 go_simp
 go_at_call 123
 (with_reducible refine (HT1.out _).mono ?_)
 rintro e w3 ⟨rfl, rfl⟩
 refine hK.out _ _ ?_ (fun hld => ?_)
 ·assumption
 clear hK K
 try simp only [Act.put, Rg.s]
 refine Rg.rd (i := 4) rfl fun K hK => ?_
 go_simp
 go_at_call 123
 (with_reducible refine (HT2.out _).mono ?_)
 rintro e w3 ⟨rfl, rfl⟩
 refine hK.out _ _ ?_ (fun hld => ?_)
 ·assumption
 clear hK K
 try simp only [Act.put, Rg.s]
 refine Rg.tk (i := 5) rfl ?_
 try simp only [Act.put, Rg.s]
 refine Rg.rd (i := 7) rfl fun K hK => ?_
 go_simp
 go_at_call 123
 (with_reducible refine (HT3.out _).mono ?_)
 rintro e w3 ⟨rfl, rfl⟩
 refine hK.out _ _ ?_ (fun hld => ?_)
 ·assumption
 clear hK K
 try simp only [Act.put, Rg.s]
 refine Rg.tk (i := 8) rfl ?_
 try simp only [Act.put, Rg.s]
 refine Rg.tk (i := 9) rfl ?_
 try simp only [Act.put, Rg.s]
 refine Rg.tk (i := 11) rfl ?_
 try simp only [Act.put, Rg.s]
 refine Rg.tk (i := 13) rfl ?_
 try simp only [Act.put, Rg.s]
 refine Rg.tk (i := 15) rfl ?_
 try simp only [Act.put, Rg.s]
 refine Rg.tk (i := 16) rfl ?_
 try simp only [Act.put, Rg.s]
 refine wpAnyH_done (by kernel_rfl) ?_ _
 refine NoPanic.normal ?_
 clear HT1 HT2 HT3 e1 e2 v1 v2 v3 v4 hld
 have HT1 := hid (right_any x0 2 2 rfl b0 (by omega) (by omega))
 have HT2 := hid (right_any x0 13 13 rfl b0 (by omega) (by omega))
 have HT3 := hid (right_any x0 22 22 rfl b0 (by omega) (by omega))
 have e1 := u32_xor_nat (turnN x0 2) (turnN x0 13) (turnN_lt 2 x0 b0) (turnN_lt 13 x0 b0)
 have e2 := u32_xor_nat (turnN x0 2 ^^^ turnN x0 13) (turnN x0 22) (Nat.xor_lt_two_pow (n := 32) (turnN_lt 2 x0 b0) (turnN_lt 13 x0 b0)) (turnN_lt 22 x0 b0)
 have hq : turnN x0 2 ^^^ turnN x0 13 ^^^ turnN x0 22 = bs0 x0 := rfl
 rw [hq] at e2
 have tB0 := bs0_lt x0 b0
 obtain ⟨B0, hB0⟩ : ∃ y, bs0 x0 = y := ⟨_, rfl⟩
 rw [hB0] at e2 tB0
 have HB0 := sec hB0
 clear hB0 hq
 generalize turnN x0 2 ^^^ turnN x0 13 = y1 at e1 e2
 generalize turnN x0 2 = a1 at HT1 e1
 generalize turnN x0 13 = a2 at HT2 e1
 generalize turnN x0 22 = a3 at HT3 e2
 have hmo := mostN_lt x0 x1 x2 b0 b1
 have A1 := u32_and_nat x0 x1 b0 b1
 have A2 := u32_and_nat x0 x2 b0 b2
 have A3 := u32_xor_nat (x0 &&& x1) (x0 &&& x2) (Nat.lt_of_le_of_lt Nat.and_le_left b0) (Nat.lt_of_le_of_lt Nat.and_le_left b0)
 have A4 := u32_and_nat x1 x2 b1 b2
 have A5 := u32_xor_nat ((x0 &&& x1) ^^^ (x0 &&& x2)) (x1 &&& x2) (Nat.xor_lt_two_pow (n := 32) (Nat.lt_of_le_of_lt Nat.and_le_left b0) (Nat.lt_of_le_of_lt Nat.and_le_left b0)) (Nat.lt_of_le_of_lt Nat.and_le_left b1)
 rw [most_xor] at A5
 obtain ⟨mo, hmoe⟩ : ∃ p, mostN x0 x1 x2 = p := ⟨_, rfl⟩
 rw [hmoe] at hmo A5
 have HMO := sec hmoe
 clear hmoe
 generalize (x0 &&& x1) ^^^ (x0 &&& x2) = q3 at A3 A5
 generalize x0 &&& x1 = q1 at A1 A3
 generalize x0 &&& x2 = q2 at A2 A3
 generalize x1 &&& x2 = q5 at A4 A5
 go_wp2_with fail
 (with_reducible refine (HT1.out _).mono ?_)
 rintro e w3 ⟨rfl, rfl⟩
 go_wp2_with fail
 (with_reducible refine (HT2.out _).mono ?_)
 rintro e w3 ⟨rfl, rfl⟩
 go_wp2_with fail
 (with_reducible refine (HT3.out _).mono ?_)
 rintro e w3 ⟨rfl, rfl⟩
 go_wp2_with fail
 clear A1 A2 A3 A4 A5 HT1 HT2 HT3 e1 e2
 have hY : ((B0 : Int) + mo) % 4294967296 = ((B0 + mo) % 4294967296 : Nat) := by omega
 have HY : Sec (yN x0 x1 x2 = (B0 + mo) % 4294967296) := sec (by unfold yN; rw [HB0.out, HMO.out])
 have hYb : (B0 + mo) % 4294967296 < 4294967296 := Nat.mod_lt _ (by omega)
 obtain ⟨Y, hYe⟩ : ∃ y, (B0 + mo) % 4294967296 = y := ⟨_, rfl⟩
 rw [hYe] at hY HY hYb
 rw [hY]
 clear hY hYe
 have fz := HFZ.out
 have v1 : IntKind.u32.wrap ((X : Int) + Y) = ((X + Y) % 4294967296 : Nat) := by rw [IntKind.wrap_u32']; omega
 have v2 : IntKind.u32.wrap ((x3 : Int) + X) = ((x3 + X) % 4294967296 : Nat) := by rw [IntKind.wrap_u32']; omega
 have HX2 : Sec (roundL kk wk [x0, x1, x2, x3, x4, x5, x6, x7] = [(X + Y) % 4294967296, x0, x1, x2, (x3 + X) % 4294967296, x4, x5, x6]) := sec (by
  show [(xN kk wk x4 x5 x6 x7 + yN x0 x1 x2) % 4294967296, x0, x1, x2, (x3 + xN kk wk x4 x5 x6 x7) % 4294967296, x4, x5, x6] = _
  rw [HY.out, show xN kk wk x4 x5 x6 x7 = X by unfold xN; rw [HB1.out, HPK.out]; exact HX.out])
 obtain ⟨N0, hN0⟩ : ∃ y, (X + Y) % 4294967296 = y := ⟨_, rfl⟩
 obtain ⟨N4, hN4⟩ : ∃ y, (x3 + X) % 4294967296 = y := ⟨_, rfl⟩
 rw [hN0] at v1 HX2
 rw [hN4] at v2 HX2
 clear hN0 hN4
 refine wp_region_noPanic ?_
 refine wp_region_held_drew (S := fun _ => True) (by kernel_rfl) (trivial) (fun hld => ?_)
 refine Rg.tk (i := 0) rfl ?_
 try simp only [Act.put, Rg.s]
 refine Rg.tk (i := 1) rfl ?_
 try simp only [Act.put, Rg.s]
 refine Rg.tk (i := 2) rfl ?_
 try simp only [Act.put, Rg.s]
 refine Rg.tk (i := 3) rfl ?_
 try simp only [Act.put, Rg.s]
 refine Rg.tk (i := 4) rfl ?_
 try simp only [Act.put, Rg.s]
 refine Rg.tk (i := 5) rfl ?_
 try simp only [Act.put, Rg.s]
 refine Rg.tk (i := 6) rfl ?_
 try simp only [Act.put, Rg.s]
 refine Rg.tk (i := 7) rfl ?_
 try simp only [Act.put, Rg.s]
 refine Rg.tk (i := 8) rfl ?_
 try simp only [Act.put, Rg.s]
 refine Rg.tk (i := 9) rfl ?_
 try simp only [Act.put, Rg.s]
 refine Rg.tk (i := 10) rfl ?_
 try simp only [Act.put, Rg.s]
 refine Rg.tk (i := 11) rfl ?_
 try simp only [Act.put, Rg.s]
 refine Rg.tk (i := 13) rfl ?_
 try simp only [Act.put, Rg.s]
 refine Rg.tk (i := 16) rfl ?_
 try simp only [Act.put, Rg.s]
 refine Rg.tk (i := 19) rfl ?_
 try simp only [Act.put, Rg.s]
 refine Rg.rd (i := 12) rfl fun K hK => ?_
 go_simp
 refine hK.out _ _ ?_ (fun hld => ?_)
 ·trivial
 clear hK K
 try simp only [Act.put, Rg.s]
 refine Rg.tk (i := 14) rfl ?_
 try simp only [Act.put, Rg.s]
 refine Rg.rd (i := 15) rfl fun K hK => ?_
 go_simp
 refine hK.out _ _ ?_ (fun hld => ?_)
 ·trivial
 clear hK K
 try simp only [Act.put, Rg.s]
 refine Rg.tk (i := 17) rfl ?_
 try simp only [Act.put, Rg.s]
 refine Rg.rd (i := 18) rfl fun K hK => ?_
 go_simp
 refine hK.out _ _ ?_ (fun hld => ?_)
 ·trivial
 clear hK K
 try simp only [Act.put, Rg.s]
 refine Rg.tk (i := 20) rfl ?_
 try simp only [Act.put, Rg.s]
 refine Rg.rd (i := 21) rfl fun K hK => ?_
 go_simp
 refine hK.out _ _ ?_ (fun hld => ?_)
 ·trivial
 clear hK K
 try simp only [Act.put, Rg.s]
 refine wpAnyH_done (by kernel_rfl) ?_ _
 refine NoPanic.normal ?_
 go_wp2_with fail
 refine wp_region_noPanic ?_
 refine wp_region_held_drew (S := fun _ => True) (by kernel_rfl) (trivial) (fun hld => ?_)
 refine Rg.tk (i := 0) rfl ?_
 try simp only [Act.put, Rg.s]
 refine Rg.tk (i := 1) rfl ?_
 try simp only [Act.put, Rg.s]
 refine Rg.tk (i := 2) rfl ?_
 try simp only [Act.put, Rg.s]
 refine Rg.tk (i := 3) rfl ?_
 try simp only [Act.put, Rg.s]
 refine Rg.tk (i := 4) rfl ?_
 try simp only [Act.put, Rg.s]
 refine Rg.tk (i := 5) rfl ?_
 try simp only [Act.put, Rg.s]
 refine Rg.tk (i := 6) rfl ?_
 try simp only [Act.put, Rg.s]
 refine Rg.tk (i := 7) rfl ?_
 try simp only [Act.put, Rg.s]
 refine Rg.tk (i := 8) rfl ?_
 try simp only [Act.put, Rg.s]
 refine Rg.tk (i := 9) rfl ?_
 try simp only [Act.put, Rg.s]
 refine Rg.tk (i := 10) rfl ?_
 try simp only [Act.put, Rg.s]
 refine Rg.tk (i := 11) rfl ?_
 try simp only [Act.put, Rg.s]
 refine Rg.tk (i := 13) rfl ?_
 try simp only [Act.put, Rg.s]
 refine Rg.tk (i := 16) rfl ?_
 try simp only [Act.put, Rg.s]
 refine Rg.tk (i := 19) rfl ?_
 try simp only [Act.put, Rg.s]
 refine Rg.rd (i := 12) rfl fun K hK => ?_
 go_simp
 refine hK.out _ _ ?_ (fun hld => ?_)
 ·trivial
 clear hK K
 try simp only [Act.put, Rg.s]
 refine Rg.tk (i := 14) rfl ?_
 try simp only [Act.put, Rg.s]
 refine Rg.rd (i := 15) rfl fun K hK => ?_
 go_simp
 refine hK.out _ _ ?_ (fun hld => ?_)
 ·trivial
 clear hK K
 try simp only [Act.put, Rg.s]
 refine Rg.tk (i := 17) rfl ?_
 try simp only [Act.put, Rg.s]
 refine Rg.rd (i := 18) rfl fun K hK => ?_
 go_simp
 refine hK.out _ _ ?_ (fun hld => ?_)
 ·trivial
 clear hK K
 try simp only [Act.put, Rg.s]
 refine Rg.tk (i := 20) rfl ?_
 try simp only [Act.put, Rg.s]
 refine Rg.rd (i := 21) rfl fun K hK => ?_
 go_simp
 refine hK.out _ _ ?_ (fun hld => ?_)
 ·trivial
 clear hK K
 try simp only [Act.put, Rg.s]
 refine wpAnyH_done (by kernel_rfl) ?_ _
 refine NoPanic.normal ?_
 clear v1 v2 hld fz c0 c1 c2 c3 c4 c5 c6 c7 hn hw
 go_end0
 have k0 : (w.drewN (n1 + n2 + 1 + 1)).heap[g]? = some (.cells (ac [x0, x1, x2, x3, x4, x5, x6, x7]) 119 (0, 0)) := HG.out
 have k1 := heap_setCell_same _ g 0 _ _ (.int .u32 N0) k0
 have k2 := heap_setCell_same _ g 1 _ _ (.int .u32 x0) k1
 have k3 := heap_setCell_same _ g 2 _ _ (.int .u32 x1) k2
 have k4 := heap_setCell_same _ g 3 _ _ (.int .u32 x2) k3
 have k5 := heap_setCell_same _ g 4 _ _ (.int .u32 N4) k4
 have k6 := heap_setCell_same _ g 5 _ _ (.int .u32 x4) k5
 have k7 := heap_setCell_same _ g 6 _ _ (.int .u32 x5) k6
 have k8 := heap_setCell_same _ g 7 _ _ (.int .u32 x6) k7
 refine ⟨rfl, ?_, ?_⟩
 ·rw [HX2.out, heap_drew, k8, ac_set8]
 ·exact drewg (setg _ (setg _ (setg _ (setg _ (setg _ (setg _ (setg _ (setg _ ⟨rfl, rfl, rfl, Nat.le_refl _, fun _ _ _ => rfl⟩))))))))
end Sm
end
end Go.Proofs.YtooklabipgmolaaGreatDoor
