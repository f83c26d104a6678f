/-
 The tree that comes at any rate in layer 9: its nodes' bytes, their sums; that its bodies can be read.
-/
import Derived.Test.YtooklabipgmolaaGreatDoorMr28
import Derived.Test.YtooklabipgmolaaGreatDoorMr23
import Derived.Test.YtooklabipgmolaaGreatDoorMr4
import Derived.Test.YtooklabipgmolaaGreatDoorMr27
import Derived.Deep.CutBlock
import Derived.Test.YtooklabipgmolaaGreatDoorMr25
import Derived.Test.YtooklabipgmolaaGreatDoorMr24
import Derived.Test.YtooklabipgmolaaGreatDoorMr21
import Derived.Test.YtooklabipgmolaaGreatDoorRows
import Derived.WalkKit
import Derived.ProofKit
import Derived.SliceStrings
import Derived.Test.YtooklabipgmolaaGreatDoorMr13
import Derived.Deep.DeepCutAuto
import Derived.LaidMore
import Derived.OpenShut
import Derived.ShutString
import Derived.Stop.Joined
open Go.Lib (hid)
set_option linter.unusedSimpArgs false
set_option linter.unusedVariables false
set_option maxHeartbeats 40000000
set_option maxRecDepth 100000
namespace Go.Proofs.YtooklabipgmolaaGreatDoor
section
open Go.RowKit
namespace Tm
open Tr Ni Pk Ky No Rf Rl
open Sm (Tab)
def lAx : T := .leaf (List.replicate 63 0) sx
def lBx : T := .leaf (List.replicate 63 0) sy
def bA : List UInt8 := [226, 160, 48, 0, 0, 0, 0, 0, 0, 0, 0, 0, 0, 0, 0, 0, 0, 0, 0, 0, 0, 0, 0, 0, 0, 0, 0, 0, 0, 0, 0, 0, 0, 0, 120]
def bB : List UInt8 := [226, 160, 48, 0, 0, 0, 0, 0, 0, 0, 0, 0, 0, 0, 0, 0, 0, 0, 0, 0, 0, 0, 0, 0, 0, 0, 0, 0, 0, 0, 0, 0, 0, 0, 121]
def bT : List UInt8 := [248, 81, 160, 149, 79, 230, 74, 221, 183, 171, 189, 216, 255, 121, 71, 132, 155, 224, 171, 87, 72, 155, 115, 111, 131, 173, 60, 178, 193, 237, 200, 169, 154, 186, 156, 160, 132, 184, 195, 197, 135, 40, 86, 237, 189, 98, 72, 237, 248, 40, 202, 152, 85, 74, 226, 224, 195, 226, 9, 198, 34, 88, 196, 219, 65, 99, 96, 32, 128, 128, 128, 128, 128, 128, 128, 128, 128, 128, 128, 128, 128, 128, 128]
def hA : List UInt8 := [149, 79, 230, 74, 221, 183, 171, 189, 216, 255, 121, 71, 132, 155, 224, 171, 87, 72, 155, 115, 111, 131, 173, 60, 178, 193, 237, 200, 169, 154, 186, 156]
def hB : List UInt8 := [132, 184, 195, 197, 135, 40, 86, 237, 189, 98, 72, 237, 248, 40, 202, 152, 85, 74, 226, 224, 195, 226, 9, 198, 34, 88, 196, 219, 65, 99, 96, 32]
def hT9 : List UInt8 := [127, 68, 42, 118, 123, 146, 198, 205, 87, 39, 68, 155, 81, 158, 117, 234, 67, 38, 127, 4, 148, 198, 243, 30, 44, 114, 38, 40, 76, 2, 17, 90]
def h09 : List UInt8 := [118, 190, 139, 82, 141, 0, 117, 247, 170, 233, 141, 111, 165, 122, 109, 60, 131, 174, 72, 10, 132, 105, 230, 104, 215, 176, 175, 150, 137, 149, 172, 113]
theorem sum_A : Sh.sumL bA = hA := by decide +kernel
theorem sum_B : Sh.sumL bB = hB := by decide +kernel
theorem sum_T : Sh.sumL bT = hT9 := by decide +kernel
theorem sum_0 : Sh.sumL [128] = h09 := by decide +kernel
theorem kidsTT : kidsT (putAll .nil lAB) = [lAx, lBx] := by kernel_rfl
theorem nodeTT : nodeT (putAll .nil lAB) = ⟨3, [], eB, ref lAx :: ref lBx :: List.replicate 14 eB⟩ := by kernel_rfl
theorem ttne : putAll .nil lAB ≠ .nil := put_ne _ _ _
theorem ttwhl : Whl (putAll .nil lAB) := ⟨hasAB.fine, hasAB.full, 64, Nat.le_refl _, hasAB.good⟩
theorem awhl : lAx ≠ .nil ∧ Whl lAx := ttwhl.kids lAx (by rw [kidsTT]; simp)
theorem bwhl : lBx ≠ .nil ∧ Whl lBx := ttwhl.kids lBx (by rw [kidsTT]; simp)
theorem put_leaf (v : ByteArray) (x : UInt8) (hv : v = ⟨#[x]⟩) (hx : x.toNat < 128) : putP ⟨1, List.replicate 63 0, v, zks⟩ = [226, 160, 48, 0, 0, 0, 0, 0, 0, 0, 0, 0, 0, 0, 0, 0, 0, 0, 0, 0, 0, 0, 0, 0, 0, 0, 0, 0, 0, 0, 0, 0, 0, 0] ++ [x] := by
 have h1 : (pathI ⟨1, List.replicate 63 0, v, zks⟩).bytes = [160, 48, 0, 0, 0, 0, 0, 0, 0, 0, 0, 0, 0, 0, 0, 0, 0, 0, 0, 0, 0, 0, 0, 0, 0, 0, 0, 0, 0, 0, 0, 0, 0] := by
  show (pathI ⟨1, List.replicate 63 0, eB, zks⟩).bytes = _
  rw [It.bytes_eq]
  decide +kernel
 have h2 : (It.mk false v []).bytes = [x] := by
  rw [bytes_text v (by subst hv; show 1 ≤ 4294967296; omega)]
  subst hv
  rw [if_pos ⟨rfl, hx⟩]
  rfl
 have hi : (itemP ⟨1, List.replicate 63 0, v, zks⟩).inner = [160, 48, 0, 0, 0, 0, 0, 0, 0, 0, 0, 0, 0, 0, 0, 0, 0, 0, 0, 0, 0, 0, 0, 0, 0, 0, 0, 0, 0, 0, 0, 0, 0] ++ [x] := by
  show ([] : List UInt8) ++ ([pathI ⟨1, List.replicate 63 0, v, zks⟩, .mk false v []].map It.bytes).flatten = _
  rw [List.map_cons, List.map_cons, List.map_nil, h1, h2]
  rfl
 unfold putP
 rw [It.bytes_eq, hi]
 rfl
theorem enc_A : encT lAx = ⟨bA.toArray⟩ := by
 show (⟨(putP ⟨1, List.replicate 63 0, sx, zks⟩).toArray⟩ : ByteArray) = _
 rw [put_leaf sx 120 rfl (by decide)]
 rfl
theorem enc_B : encT lBx = ⟨bB.toArray⟩ := by
 show (⟨(putP ⟨1, List.replicate 63 0, sy, zks⟩).toArray⟩ : ByteArray) = _
 rw [put_leaf sy 121 rfl (by decide)]
 rfl
theorem ref_A : ref lAx = ⟨hA.toArray⟩ := by
 rw [ref_enc awhl.2.ns, enc_A]
 unfold ofP
 rw [if_neg (by decide)]
 show (⟨(Sh.sumL bA).toArray⟩ : ByteArray) = _
 rw [sum_A]
theorem ref_B : ref lBx = ⟨hB.toArray⟩ := by
 rw [ref_enc bwhl.2.ns, enc_B]
 unfold ofP
 rw [if_neg (by decide)]
 show (⟨(Sh.sumL bB).toArray⟩ : ByteArray) = _
 rw [sum_B]
theorem put_T : putP ⟨3, [], eB, ⟨hA.toArray⟩ :: ⟨hB.toArray⟩ :: List.replicate 14 eB⟩ = bT := by
 have hr : ∀ h : List UInt8, h.length = 32 → (refI ⟨h.toArray⟩).bytes = 160 :: h := fun h hl => by
  have hsz : (⟨h.toArray⟩ : ByteArray).size = 32 := by
   show h.toArray.size = 32
   simpa using hl
  have e : refI ⟨h.toArray⟩ = .mk false ⟨h.toArray⟩ [] := by
   unfold refI plainB
   rw [hsz]
   rfl
  rw [e, bytes_text _ (by omega), if_neg (by omega), hsz]
  rfl
 have h0 : (refI eB).bytes = [128] := by
  have e : refI eB = .mk false eB [] := rfl
  rw [e, bytes_text eB (by decide)]
  rfl
 have hz : it0.bytes = [128] := by
  show (It.mk false eB []).bytes = _
  rw [bytes_text eB (by decide)]
  rfl
 have h1 := hr hA rfl
 have h2 := hr hB rfl
 have hi : (itemP ⟨3, [], eB, ⟨hA.toArray⟩ :: ⟨hB.toArray⟩ :: List.replicate 14 eB⟩).inner = [160, 149, 79, 230, 74, 221, 183, 171, 189, 216, 255, 121, 71, 132, 155, 224, 171, 87, 72, 155, 115, 111, 131, 173, 60, 178, 193, 237, 200, 169, 154, 186, 156, 160, 132, 184, 195, 197, 135, 40, 86, 237, 189, 98, 72, 237, 248, 40, 202, 152, 85, 74, 226, 224, 195, 226, 9, 198, 34, 88, 196, 219, 65, 99, 96, 32, 128, 128, 128, 128, 128, 128, 128, 128, 128, 128, 128, 128, 128, 128, 128] := by
  show ([] : List UInt8) ++ (((⟨hA.toArray⟩ :: ⟨hB.toArray⟩ :: List.replicate 14 eB).map refI ++ [it0]).map It.bytes).flatten = _
  rw [List.map_cons, List.map_cons, List.cons_append, List.cons_append, List.map_cons, List.map_cons, List.map_append, List.map_replicate, List.map_replicate, h0, h1, h2, List.map_cons, List.map_nil, hz]
  rfl
 unfold putP
 rw [It.bytes_eq, hi]
 decide +kernel
theorem enc_T : encT (putAll .nil lAB) = ⟨bT.toArray⟩ := by
 have e : encT (putAll .nil lAB) = encN (nodeT (putAll .nil lAB)) := by kernel_rfl
 rw [e, nodeTT, ref_A, ref_B]
 unfold encN
 rw [put_T]
theorem ref_T : ref (putAll .nil lAB) = ⟨hT9.toArray⟩ := by
 rw [ref_enc ttwhl.ns, enc_T]
 unfold ofP
 rw [if_neg (by decide)]
 show (⟨(Sh.sumL bT).toArray⟩ : ByteArray) = _
 rw [sum_T]
theorem ba_ne {x y : List UInt8} (h : x ≠ y) : (⟨x.toArray⟩ : ByteArray) ≠ ⟨y.toArray⟩ := fun e => h (by
 injection e with e
 have := congrArg Array.toList e
 simpa using this)
theorem ab_ne : ref lAx ≠ ref lBx := by rw [ref_A, ref_B]; exact ba_ne (by decide)
theorem ta_ne : ref (putAll .nil lAB) ≠ ref lAx := by rw [ref_T, ref_A]; exact ba_ne (by decide)
theorem tb_ne : ref (putAll .nil lAB) ≠ ref lBx := by rw [ref_T, ref_B]; exact ba_ne (by decide)
theorem root_ne : rootP (encT (putAll .nil lAB)) ≠ rootP eB := by
 rw [enc_T]
 unfold rootP
 rw [if_neg (by decide), if_pos (by decide)]
 show Sh.sumL bT ≠ Sh.sumL [128]
 rw [sum_T, sum_0]
 decide
theorem nodesTT : nodesT (putAll .nil lAB) = [encT (putAll .nil lAB), encT lAx, encT lBx] := by
 rw [nodes_cons ttne ttwhl.ns, kidsTT]
 rfl
theorem bodiesTT : bodiesL (nodesT (putAll .nil lAB)) = [encT (putAll .nil lAB), encT lAx, encT lBx] := by
 rw [nodesTT]
 show encT (putAll .nil lAB) :: List.filter _ [encT lAx, encT lBx] = _
 rw [enc_A, enc_B]
 rfl
theorem weightTT : weightL (bodiesL (nodesT (putAll .nil lAB))) = 153 := by
 rw [bodiesTT, enc_T, enc_A, enc_B]
 rfl
theorem shelf3 {x y z a b c : ByteArray} (hx : ofP x = a) (hy : ofP y = b) (hz : ofP z = c) (h1 : a ≠ b) (h2 : a ≠ c) (h3 : b ≠ c) : shelfF [x, y, z] = setF (setF (setF (fun _ => none) a (x, .nil, 0)) b (y, .nil, 0)) c (z, .nil, 0) := by
 subst hx hy hz
 unfold shelfF
 simp only [List.foldl]
 rw [if_neg (show ¬ ((fun _ => none : Fs) (ofP x)).isSome = true by simp)]
 rw [if_neg (show ¬ ((setF (fun _ => none) (ofP x) (x, .nil, 0)) (ofP y)).isSome = true by unfold setF; rw [if_neg (fun e => h1 e.symm)]; simp)]
 rw [if_neg (show ¬ ((setF (setF (fun _ => none) (ofP x) (x, .nil, 0)) (ofP y) (y, .nil, 0)) (ofP z)).isSome = true by unfold setF; rw [if_neg (fun e => h3 e.symm), if_neg (fun e => h2 e.symm)]; simp)]
theorem setF_same (f : Fs) (k : ByteArray) (v : Ent) : setF f k v k = some v := by unfold setF; rw [if_pos rfl]
theorem setF_other (f : Fs) {k s : ByteArray} (v : Ent) (h : s ≠ k) : setF f k v s = f s := by unfold setF; rw [if_neg h]
theorem load_tt {M : Mp} {W : World} (hi : Inv M W) (hT : Tab W) (a : Option Addr) (n c : Nat) (h : IsSt W a n c (bodiesL (nodesT (putAll .nil lAB)))) (hrow : ∀ b off, a = some ⟨b, off, none⟩ → M.at_ b = none) :
  Calls Tryz.prog 25 #[.agg (Sm.kc (rootP (encT (putAll .nil lAB)))), .slice a n c] W (LoadP M W (putAll .nil lAB)) := by
 have hn : n = 3 := by
  have := h.len
  rw [bodiesTT] at this
  exact this.symm
 have hfew := ttwhl.few
 have hx : ∀ s ∈ bodiesL (nodesT (putAll .nil lAB)), s.size ≤ 900000 := fun s hs => hfew s (bodies_mem hs)
 rw [bodiesTT] at h hx
 have hF := shelf3 (x := encT (putAll .nil lAB)) (y := encT lAx) (z := encT lBx) (ref_enc ttwhl.ns).symm (ref_enc awhl.2.ns).symm (ref_enc bwhl.2.ns).symm ta_ne tb_ne ab_ne
 have hT0 := ttne
 have hTw := ttwhl
 have hk := kidsTT
 have hrn := root_ne
 have n1 := ta_ne
 have n2 := tb_ne
 have n3 := ab_ne
 have hA := awhl
 have hB := bwhl
 have s32 : 32 ≤ (ref lAx).size ∧ 32 ≤ (ref lBx).size := by rw [ref_A, ref_B]; exact ⟨by decide, by decide⟩
 have k0 : kidsT lAx = [] := rfl
 have k1 : kidsT lBx = [] := rfl
 have szT : (ref (putAll .nil lAB)).size ≤ 1000 := by rw [ref_enc ttwhl.ns]; have := ofP_few (encT (putAll .nil lAB)); omega
 have szA : (ref lAx).size ≤ 1000 := by rw [ref_enc awhl.2.ns]; have := ofP_few (encT lAx); omega
 have szB : (ref lBx).size ≤ 1000 := by rw [ref_enc bwhl.2.ns]; have := ofP_few (encT lBx); omega
 generalize putAll .nil lAB = t at *
 generalize lAx = u at *
 generalize lBx = v at *
 obtain ⟨F, hFF⟩ : ∃ F, shelfF [encT t, encT u, encT v] = F := ⟨_, rfl⟩
 have fT : F (ref t) = some (encT t, .nil, 0) := by rw [← hFF, hF, setF_other _ _ n2, setF_other _ _ n1, setF_same]
 have fU : F (ref u) = some (encT u, .nil, 0) := by rw [← hFF, hF, setF_other _ _ n3, setF_same]
 have fV : F (ref v) = some (encT v, .nil, 0) := by rw [← hFF, hF, setF_same]
 have r1 : Read F v := fun z hz => by rw [k1] at hz; cases hz
 have r2 : Read (setF F (ref v) (encT v, v, maxl F (kidsT v) + 1)) u := fun z hz => by rw [k0] at hz; cases hz
 have m1 : maxl F (kidsT v) = 0 := by rw [k1]; rfl
 have m2 : maxl (setF F (ref v) (encT v, v, maxl F (kidsT v) + 1)) (kidsT u) = 0 := by rw [k0]; rfl
 obtain ⟨f2, hf2⟩ : ∃ f2, setF (setF F (ref v) (encT v, v, maxl F (kidsT v) + 1)) (ref u) (encT u, u, maxl (setF F (ref v) (encT v, v, maxl F (kidsT v) + 1)) (kidsT u) + 1) = f2 := ⟨_, rfl⟩
 have r3 : Read f2 t := fun z hz => by
  rw [hk] at hz
  rcases List.mem_cons.1 hz with rfl | hz
  ·exact ⟨1, by rw [← hf2, setF_same, m2], by omega, by omega, s32.1⟩
  ·rw [List.mem_singleton.1 hz]
   exact ⟨1, by rw [← hf2, setF_other _ _ (fun e => n3 e.symm), setF_same, m1], by omega, by omega, s32.2⟩
 have hmx : maxl f2 (kidsT t) ≤ 64 := by
  have := r3.max (kidsT t).length
  rwa [List.take_length] at this
 have f2T : f2 (ref t) = some (encT t, .nil, 0) := by rw [← hf2, setF_other _ _ n1, setF_other _ _ n2]; exact fT
 refine load_any hi hT [encT t, encT u, encT v] hx a n c h (by omega) (by omega) hrow hTw hT0 rfl hrn (by rw [hFF]; exact fT) (by rw [hk]; simp) (fun z hz => ?_) (k0 := 3) (fe := setF f2 (ref t) (encT t, t, maxl f2 (kidsT t) + 1)) ?_ (by omega) (lv := maxl f2 (kidsT t) + 1) (setF_same _ _ _) (by omega)
 ·rw [hFF]
  rw [hk] at hz
  unfold gone
  rcases List.mem_cons.1 hz with rfl | hz
  ·rw [fU]; rfl
  ·rw [List.mem_singleton.1 hz, fV]; rfl
 ·rw [hFF, hk]
  refine ⟨[ref t, ref u], v, rfl, fV, hB.2, hB.1, szB, r1, [ref t], u, rfl, by rw [setF_other _ _ n3]; exact fU, hA.2, hA.1, szA, r2, [], t, rfl, ?_, hTw, hT0, szT, ?_, rfl, ?_⟩
  ·rw [hf2]; exact f2T
  ·rw [hf2]; exact r3
  ·rw [hf2, hk]
end Tm
end
section
open Go.RowKit
namespace Tm
open Tr Ni Pk Ky No Rf Rl
open Sm (Tab)
theorem bodies_any (M : Mp) (p : Option Addr) (t : T) (hx : Whl t) (hfew : (nodesT t).length ≤ 100000) (w : World) (hi : Inv M w) (ht : IsT M p t) (hT : Tab w) :
  Calls Tryz.prog 15 #[tv p] w (GotL M w (bodiesL (nodesT t))) := by
 obtain ⟨i0, hi0, hz0, hz1, hz2⟩ := info_st_parts
 have HI : Hid (_ ∧ _ ∧ _ ∧ _) := hid ⟨hi0, hz0, hz1, hz2⟩
 have hA1 := al1 w (.cells #[.pointer p] 26)
 have h0 := box_tree w p
 have HN := hid (nodes_any M p t hx hfew (w.alloc (.cells #[.pointer p] 26)) (hi.below hA1) ht (hT.below hA1 hT.pos))
 have HF0 : Hid (∀ w2, Fr M M (w.alloc (.cells #[.pointer p] 26)) w2 → Fr M M w w2) := hid (fun w2 f => (Fr.below M hA1).trans hi f)
 have hfree : ∀ k, w.heap.size ≤ k → M.at_ k = none ∧ ¬ M.ft k := fun k hk => ⟨hi.out hk, hi.free hk⟩
 have HFree := hid hfree
 have HP0 := hid hT.pos
 clear hi0 hz0 hz1 hz2 hx hi ht hT hA1 hfree
 obtain ⟨xs, hxs⟩ : ∃ xs, nodesT t = xs := ⟨_, rfl⟩
 rw [hxs] at HN hfew ⊢
 clear hxs
 go_enter Tryz.func15, Tryz.ntmps15
 go_wp2_with (first
  | (refine Rg.run rfl _ _ (op_load_tree h0 ⟨_, rfl, rfl⟩) ?_))
 refine HN.out.mono ?_
 rintro e w2 ⟨a, n, c, rfl, hst, hnew, f2, i2, t2⟩
 have f02 := HF0.out w2 f2
 have hs2 := f02.size
 have hnc := hst.1
 have hcm := hst.2.1
 unfold maxLen at hcm
 have hl := hst.len
 have H := hid hst
 have HL := hid hl
 have HF2 : Hid (Fr M M w w2 ∧ Inv M w2 ∧ Tab w2) := hid ⟨f02, i2, t2⟩
 rw [hl] at hfew
 clear hst hnew f2 i2 t2 f02 HN HF0 h0 hl
 go_wp2_with fail
 go_loopw [3, 9] (fun v i wr => ∃ j : Nat, j ≤ n ∧ i = .int .i64 j ∧ Hid (wr.ownsRow w2.heap.size 9 1 v (bodiesL (xs.take j)).length ((bodiesL (xs.take j)).map Value.string)) ∧ Hid (Below w2.heap.size w2 wr)) (fun _ i _ => n - (intOf i).toNat)
 case atStart => exact ⟨0, Nat.zero_le _, rfl, hid (World.ownsRow_nil _ _ _ _), hid (Below.refl _ _)⟩
 case round =>
  obtain ⟨j, hj, rfl, HR, HB⟩ := hrel
  by_cases hlt : j < n
  ·have HS := hid (bodies_snoc xs j (by rw [HL.out]; exact hlt))
   have hbl := bodies_len (xs.take j)
   rw [List.length_take] at hbl
   obtain ⟨b, off, rfl, hblt, hcell⟩ := H.out.at' j hlt
   have hc0 := (Below.cell (p := ⟨b, off + j, none⟩) HB.out hblt).trans hcell
   have hsz := HB.out.size
   obtain ⟨L, hL⟩ : ∃ L, bodiesL (xs.take j) = L := ⟨_, rfl⟩
   rw [hL] at HS hbl HR
   obtain ⟨K, hK⟩ : ∃ K, xs.getD j eB = K := ⟨_, rfl⟩
   rw [hK] at HS hc0
   clear hL hK hcell
   by_cases hput : j = 0 ∨ 32 ≤ K.size
   ·have HS' : Hid (bodiesL (xs.take (j + 1)) = L ++ [K]) := hid (by rw [HS.out, if_pos hput])
    clear HS
    have hdis : j = 0 ∨ (j ≠ 0 ∧ 32 ≤ K.size) := by omega
    rcases hdis with rfl | ⟨h0, h32⟩
    ·rw [Nat.add_zero] at hc0
     go_wp2_with (first
      | (at_builtin; refine wpList_append_own _ rfl _ _ 30 rfl w2.heap.size 9 i0 (.string ⟨#[]⟩) 1 16 Tryz.underlying30 HI.out.1 HI.out.2.1 HI.out.2.2.1 HI.out.2.2.2 rfl (by decide) _ _ _ rfl (HR.out.alloc _) ⟨wr.heap.size, 0, none⟩ 1 1 [.string K] rfl rfl ?d1 ?d2 ?d3 ?d4 ?d5 ?_))
     all_goals first
      | exact Bu.cell_one_new' _ _ _ _
      | (intro u hu; simp at hu; subst hu; rfl)
      | rfl
      | (unfold maxLen; omega)
      | omega
      | (simp; omega)
      | skip
     intro v' w5 hown5 hgrow _
     have hlt' := HR.out.lt
     go_wp2
     go_roundw
     case rel => exact ⟨0 + 1, by omega, by go_num, hid (by rw [HS'.out, List.length_append, List.map_append]; exact hown5), hid ((HB.out.alloc hsz _).grown hgrow (by simp; omega) (fun g hg => (hlt' g hg).1))⟩
     case measure => simp [intOf]; omega
    ·have q0 : decide ((j : Int) = 0) = false := decide_eq_false (by omega)
     have q0n : decide (j = 0) = false := decide_eq_false (by omega)
     have q1 : decide ((32 : Int) ≤ (K.size : Int)) = true := decide_eq_true (by omega)
     have q1n : decide (32 ≤ K.size) = true := decide_eq_true (by omega)
     go_wp2_with (first
      | (at_builtin; refine wpList_append_own _ rfl _ _ 30 rfl w2.heap.size 9 i0 (.string ⟨#[]⟩) 1 16 Tryz.underlying30 HI.out.1 HI.out.2.1 HI.out.2.2.1 HI.out.2.2.2 rfl (by decide) _ _ _ rfl (HR.out.alloc _) ⟨wr.heap.size, 0, none⟩ 1 1 [.string K] rfl rfl ?f1 ?f2 ?f3 ?f4 ?f5 ?_))
     all_goals first
      | exact Bu.cell_one_new' _ _ _ _
      | (intro u hu; simp at hu; subst hu; rfl)
      | rfl
      | (unfold maxLen; omega)
      | omega
      | (simp; omega)
      | skip
     intro v' w5 hown5 hgrow _
     have hlt' := HR.out.lt
     go_wp2
     go_roundw
     case rel => exact ⟨j + 1, by omega, by go_num, hid (by rw [HS'.out, List.length_append, List.map_append]; exact hown5), hid ((HB.out.alloc hsz _).grown hgrow (by simp; omega) (fun g hg => (hlt' g hg).1))⟩
     case measure => simp [intOf]; omega
   ·have HS' : Hid (bodiesL (xs.take (j + 1)) = L) := hid (by rw [HS.out, if_neg hput, List.append_nil])
    have h0 : j ≠ 0 := by omega
    have h32 : ¬ 32 ≤ K.size := by omega
    have q0 : decide ((j : Int) = 0) = false := decide_eq_false (by omega)
    have q0n : decide (j = 0) = false := decide_eq_false (by omega)
    have q1 : decide ((32 : Int) ≤ (K.size : Int)) = false := decide_eq_false (by omega)
    have q1n : decide (32 ≤ K.size) = false := decide_eq_false (by omega)
    clear HS hput
    go_wp2
    go_roundw
    case rel => exact ⟨j + 1, by omega, by go_num, by rw [HS'.out]; exact HR, HB⟩
    case measure => simp [intOf]; omega
  ·obtain rfl : j = n := by omega
   have hO := HR.out
   rw [List.take_of_length_le (by rw [HL.out]; exact Nat.le_refl _)] at hO
   obtain ⟨a', cap', rfl, hb⟩ := IsSt.ofOwn hO
   have HE : Hid (GotL M w (bodiesL xs) (.returned (.slice a' (bodiesL xs).length cap')) wr) := hid ⟨a', _, cap', rfl, hb, fun b off e => by have := (hO.lt b (by rw [e]; rfl)).1; omega, HF2.out.1.trans2 hs2 HB.out, HF2.out.2.1.below HB.out, HF2.out.2.2.below HB.out HF2.out.2.2.pos⟩
   clear hO hb
   go_wp2
   go_ret
   exact HE.out
theorem weight_any (M : Mp) (p : Option Addr) (t : T) (hx : Whl t) (hfew : (nodesT t).length ≤ 100000) (w : World) (hi : Inv M w) (ht : IsT M p t) (hT : Tab w) :
  Calls Tryz.prog 16 #[tv p] w fun e w' => e = .returned (.int .i64 (weightL (bodiesL (nodesT t)) : Nat)) ∧ Fr M M w w' ∧ Inv M w' ∧ Tab w' := by
 have hA1 := al1 w (.cells #[.pointer p] 26)
 have h0 := box_tree w p
 have HN := hid (bodies_any M p t hx hfew (w.alloc (.cells #[.pointer p] 26)) (hi.below hA1) ht (hT.below hA1 hT.pos))
 have HF0 : Hid (∀ w2, Fr M M (w.alloc (.cells #[.pointer p] 26)) w2 → Fr M M w w2) := hid (fun w2 f => (Fr.below M hA1).trans hi f)
 have hall : ∀ s ∈ bodiesL (nodesT t), s.size ≤ 900000 := fun s hs => hx.few s (bodies_mem hs)
 have HAll := hid hall
 have hfew' : (bodiesL (nodesT t)).length ≤ 100000 := Nat.le_trans (bodies_len _) hfew
 clear hx hi ht hT hA1 hall hfew
 obtain ⟨xs, hxs⟩ : ∃ xs, bodiesL (nodesT t) = xs := ⟨_, rfl⟩
 rw [hxs] at HN hfew' HAll ⊢
 clear hxs
 go_enter Tryz.func16, Tryz.ntmps16
 go_wp2_with (first
  | (refine Rg.run rfl _ _ (op_load_tree h0 ⟨_, rfl, rfl⟩) ?_))
 refine HN.out.mono ?_
 rintro e w2 ⟨a, n, c, rfl, hst, hnew, f2, i2, t2⟩
 have f02 := HF0.out w2 f2
 have hnc := hst.1
 have hcm := hst.2.1
 unfold maxLen at hcm
 have hl := hst.len
 have H := hid hst
 have HL := hid hl
 have HF2 : Hid (Fr M M w w2 ∧ Inv M w2 ∧ Tab w2) := hid ⟨f02, i2, t2⟩
 rw [hl] at hfew'
 clear hst hnew f2 i2 t2 f02 HN HF0 h0 hl
 go_wp2_with fail
 go_loopw [3, 9] (fun v i wr => ∃ j : Nat, j ≤ n ∧ i = .int .i64 j ∧ v = .int .i64 (weightL (xs.take j) : Nat) ∧ Hid (Below w2.heap.size w2 wr)) (fun _ i _ => n - (intOf i).toNat)
 case atStart => exact ⟨0, Nat.zero_le _, rfl, rfl, hid (Below.refl _ _)⟩
 case round =>
  obtain ⟨j, hj, rfl, rfl, HB⟩ := hrel
  by_cases hlt : j < n
  ·have HS := hid (weight_snoc xs j (by rw [HL.out]; exact hlt))
   have hf := weight_few xs HAll.out j
   have hf2 := weight_few xs HAll.out (j + 1)
   rw [HL.out] at hf hf2
   have hf3 : n * 900000 ≤ 1000000 * 900000 := Nat.mul_le_mul_right _ (by omega)
   obtain ⟨b, off, rfl, hblt, hcell⟩ := H.out.at' j hlt
   have hc0 := (Below.cell (p := ⟨b, off + j, none⟩) HB.out hblt).trans hcell
   rw [HS.out] at hf2
   obtain ⟨K, hK⟩ : ∃ K, xs.getD j eB = K := ⟨_, rfl⟩
   rw [hK] at HS hc0 hf2
   obtain ⟨L, hL⟩ : ∃ L, weightL (xs.take j) = L := ⟨_, rfl⟩
   rw [hL] at HS hf hf2 ⊢
   have hw : IntKind.i64.wrap ((L : Int) + (K.size : Int)) = (L : Int) + (K.size : Int) := IntWalk.i64_in _ (by omega)
   clear hL hK hcell
   go_wp2
   go_roundw
   case rel => exact ⟨j + 1, by omega, by go_num, by rw [HS.out, Int.natCast_add], HB⟩
   case measure => simp [intOf]; omega
  ·obtain rfl : j = n := by omega
   have HE : Hid (weightL (xs.take j) = weightL xs) := hid (by rw [List.take_of_length_le (by rw [HL.out]; exact Nat.le_refl _)])
   have HF3 : Hid (Fr M M w wr ∧ Inv M wr ∧ Tab wr) := hid ⟨HF2.out.1.trans2 HF2.out.1.size HB.out, HF2.out.2.1.below HB.out, HF2.out.2.2.below HB.out HF2.out.2.2.pos⟩
   go_wp2
   go_ret
   exact ⟨by rw [HE.out]; rfl, HF3.out⟩
end Tm
end
section
open Go.RowKit
namespace Tm
open Tr Ni Pk Ky No Rf Rl
open Sm (Tab)
theorem run_alloc_key9 (ev : Operand → Value) (o : Oper) (w : World) (b : Nat) (hb : b = w.heap.size) (ho : o.op = .alloc 45) : (execOp ev o).run Tryz.prog w = .ok (.value (.pointer (some ⟨b, 0, none⟩))) (w.alloc (.cells (kc zk) 45)) := by
 subst hb
 exact run_alloc_key ev o ho w
structure A9 (w0 : World) (M : Mp) (w : World) (g3 : Nat) (p : Option Addr) (t : T) : Prop where
 l : Lw w0 M w
 bT : Bx M w g3 #[.pointer p] 26
 hT : IsT M p t
namespace A9
variable {w0 : World} {M M' : Mp} {w w' : World} {g3 : Nat} {p : Option Addr} {t : T}
theorem below (h : A9 w0 M w g3 p t) (hb : Below w.heap.size w w') : A9 w0 M w' g3 p t := ⟨h.l.below hb, h.bT.below hb, h.hT⟩
theorem fr (h : A9 w0 M w g3 p t) (f : Fr M M' w w') (i : Inv M' w') (tt : Tab w') : A9 w0 M' w' g3 p t := ⟨h.l.fr f i tt, h.bT.frm h.l.i f, h.hT.mono f.mono⟩
theorem say {v : Value} {e : Ending} (h : A9 w0 M w g3 p t) (g : SayP M w v e w') : e = .returned v ∧ A9 w0 M w' g3 p t ∧ Fr M M w w' := ⟨g.1, h.fr g.2.1 g.2.2.1 g.2.2.2, g.2.1⟩
theorem upd (h : A9 w0 M w g3 p t) {g : Nat} (hu : Rg.Upd w g w') (hg : w0.heap.size ≤ g) (hf : ¬ M.ft g) (hne : g ≠ g3) : A9 w0 M w' g3 p t := ⟨h.l.upd hu hg hf, h.bT.upd hu hne.symm, h.hT⟩
end A9
structure Ab (w0 : World) (M : Mp) (w : World) (g3 : Nat) (p : Option Addr) (b8 : Nat) (pu : Option Addr) (g6 : Nat) (t : T) : Prop where
 a : A9 w0 M w g3 p t
 b : Bx M w b8 #[.pointer pu] 26
 u : IsT M pu t
 v : Bx M w g6 #[.pointer none] 26
namespace Ab
variable {w0 : World} {M M' : Mp} {w w' : World} {g3 b8 g6 : Nat} {p pu : Option Addr} {t : T}
theorem start (a : A9 w0 M w g3 p t) (b : Bx M w b8 #[.pointer pu] 26) (u : IsT M pu t) {cs : Array Value} (o : Rg.Own w' g6 cs 26) (n : ¬ M.ft g6) (hu : Rg.Upd w g6 w') (hg : w0.heap.size ≤ g6) (h1 : g6 ≠ g3) (h2 : g6 ≠ b8) (hc : cs = #[.pointer none] := by rfl) : Ab w0 M w' g3 p b8 pu g6 t := by
 subst hc
 exact ⟨a.upd hu hg n h1, b.upd hu h2.symm, u, o, n, one_no none⟩
theorem below (h : Ab w0 M w g3 p b8 pu g6 t) (hb : Below w.heap.size w w') : Ab w0 M w' g3 p b8 pu g6 t := ⟨h.a.below hb, h.b.below hb, h.u, h.v.below hb⟩
theorem fr (h : Ab w0 M w g3 p b8 pu g6 t) (f : Fr M M' w w') (i : Inv M' w') (tt : Tab w') : Ab w0 M' w' g3 p b8 pu g6 t := ⟨h.a.fr f i tt, h.b.frm h.a.l.i f, h.u.mono f.mono, h.v.frm h.a.l.i f⟩
theorem say {v : Value} {e : Ending} (h : Ab w0 M w g3 p b8 pu g6 t) (g : SayP M w v e w') : e = .returned v ∧ Ab w0 M w' g3 p b8 pu g6 t := ⟨g.1, h.fr g.2.1 g.2.2.1 g.2.2.2⟩
end Ab
theorem awake9_any (w : World) (hT : Tab w) : Calls Tryz.prog 9 #[] w fun e w' => e = .returned (.bool true) ∧ Below w.heap.size w w' := by
 obtain ⟨w1, hw1⟩ : ∃ w1, w1 = (w.alloc (.cells (kc zk) 45)).alloc (.cells (kc zk) 45) := ⟨_, rfl⟩
 have hb1 : Below w.heap.size w w1 := by rw [hw1]; exact al2 _ _ _
 have hA : Rg.Own w1 w.heap.size (kc ka) 45 := by rw [hw1]; exact (Rg.Own.new _ _ _).below (al1 _ _)
 have hB : Rg.Own w1 (w.heap.size + 1) (kc zk) 45 := by
  have := Rg.Own.new (w.alloc (.cells (kc zk) 45)) (kc zk) 45
  rw [hw1]
  simpa using this
 have HL1 := hid ((Lw.start hT).below hb1)
 have HA1 := hid hA
 have HB1 := hid hB
 have hne1 : w.heap.size ≠ w.heap.size + 1 := by omega
 have HAl := hid run_alloc_key9
 have HSet : Hid ((kc zk).setIfInBounds 0 (.int .u8 16) = kc kb) := hid (kc_set zk 0 16)
 have HBa := hid (built_pair ka sx ka_len)
 have HBb := hid (built_pair kb sy kb_len)
 have HLa : Hid (ka.length = 32) := hid ka_len
 have HLb : Hid (kb.length = 32) := hid kb_len
 have HZs : Hid ((kc zk).size = 32) := hid zk_size
 have HAll : Hid (∀ (b : Nat) w3, Rg.Own w3 b (rowP lAB).toArray 47 → Lw w M0 w3 → Calls Tryz.prog 5 #[.slice (some ⟨b, 0, none⟩) 2 2] w3 (GotT M0 w3 (putAll .nil lAB))) := hid (fun b w3 h hl => of_any M0 _ 2 2 lAB okAB w3 hl.i (isPs_lit (l := lAB) h okAB.1 (by decide)) (by decide))
 have hlen3 : (nodesT (putAll .nil lAB)).length = 3 := by rw [nodesTT]; rfl
 have HLen := hid hlen3
 have HOfc : Hid (∀ M W p, Inv M W → IsT M p (putAll .nil lAB) → Tab W → Calls Tryz.prog 10 #[tv p] W (SayP M W (.agg (Sm.kc (rootP (encT (putAll .nil lAB))))))) := hid (fun M W p hi ht h => of_root M p _ ttwhl W hi ht h)
 have HBd : Hid (∀ M W p, Inv M W → IsT M p (putAll .nil lAB) → Tab W → Calls Tryz.prog 15 #[tv p] W (GotL M W (bodiesL (nodesT (putAll .nil lAB))))) := hid (fun M W p hi ht h => bodies_any M p _ ttwhl (by omega) W hi ht h)
 have HLd : Hid (∀ M W a n c, Inv M W → Tab W → IsSt W a n c (bodiesL (nodesT (putAll .nil lAB))) → (∀ b off, a = some ⟨b, off, none⟩ → M.at_ b = none) → Calls Tryz.prog 25 #[.agg (Sm.kc (rootP (encT (putAll .nil lAB)))), .slice a n c] W (LoadP M W (putAll .nil lAB))) := hid (fun M W a n c hi h hs hr => load_tt hi h a n c hs hr)
 have HSm : Hid (∀ M W p q, Inv M W → IsT M p (putAll .nil lAB) → IsT M q (putAll .nil lAB) → Tab W → Calls Tryz.prog 26 #[tv p, tv q] W (SayP M W (.bool true))) := hid (fun M W p q hi ht hu h => same_any M p q _ ttwhl W hi ht hu h)
 have HWh : Hid (∀ M W p, Inv M W → IsT M p (putAll .nil lAB) → Tab W → Calls Tryz.prog 18 #[tv p] W (SayP M W (.bool true))) := hid (fun M W p hi ht h => whole_any M p _ ttwhl (by omega) W hi ht h)
 have HNd : Hid (∀ M W p, Inv M W → IsT M p (putAll .nil lAB) → Tab W → Calls Tryz.prog 14 #[tv p] W (GotL M W (nodesT (putAll .nil lAB)))) := hid (fun M W p hi ht h => nodes_any M p _ ttwhl (by omega) W hi ht h)
 have HWt : Hid (∀ M W p, Inv M W → IsT M p (putAll .nil lAB) → Tab W → Calls Tryz.prog 16 #[tv p] W (SayP M W (.int .i64 153))) := hid (fun M W p hi ht h => by
  refine (weight_any M p _ ttwhl (by omega) W hi ht h).mono ?_
  rintro e w' ⟨rfl, hr⟩
  exact ⟨by rw [weightTT]; rfl, hr⟩)
 have nwhl : Whl .nil := ⟨trivial, trivial, 0, Nat.zero_le _, trivial⟩
 have HOf0 : Hid (∀ M W, Inv M W → Tab W → Calls Tryz.prog 10 #[tv none] W (SayP M W (.agg (Sm.kc (rootP eB))))) := hid (fun M W hi h => of_root M none .nil nwhl W hi (IsT.zero M) h)
 have HLd0 : Hid (∀ M W a n c, Inv M W → Tab W → Calls Tryz.prog 25 #[.agg (Sm.kc (rootP eB)), .slice a n c] W (LoadP M W .nil)) := hid (fun M W a n c hi h => load_none M a n c W hi h)
 generalize putAll .nil lAB = TT at *
 obtain ⟨r9, hr9⟩ : ∃ r, rootP (encT TT) = r := ⟨_, rfl⟩
 obtain ⟨z9, hz9⟩ : ∃ r, rootP eB = r := ⟨_, rfl⟩
 rw [hr9] at HOfc HLd
 rw [hz9] at HOf0 HLd0
 clear hA hB hb1 hT hlen3 hr9 hz9
 have HW : Hid (_ = _) := hid hw1
 clear hw1
 have HLit : Hid (rowP [(ka, sx), (kb, sy)] = rowP lAB) := hid rfl
 obtain ⟨ROW, hROW⟩ : ∃ R, rowP lAB = R := ⟨_, rfl⟩
 rw [hROW] at HAll HLit
 generalize ka = A at *
 generalize kb = B at *
 generalize zk = Z at *
 go_enter Tryz.func9, Tryz.ntmps9
 go_wp2_with (first
  | (refine Rg.run rfl _ _ (HAl.out _ _ _ w.heap.size rfl rfl) ?_)
  | (refine Rg.run rfl _ _ (HAl.out _ _ _ (w.heap.size + 1) (by simp) rfl) ?_)
  | (rw [← HW.out]; refine wpl_store_u8 HB1.out (by rw [HZs.out]; decide) 16 rfl _ _ rfl rfl rfl ?_; intro w2 hO2 hu2; have HB2 : Hid (Rg.Own w2 (w.heap.size + 1) (kc B) 45) := hid (by rw [← HSet.out]; exact hO2); have HA2 := hid (HA1.out.upd hu2 hne1); have HL2 := hid (HL1.out.upd hu2 (by omega) (fun h => h)); clear hO2 hu2)
  | (refine Rg.run rfl _ _ (op_load_key HLa.out HA2.out.2 ⟨_, rfl, rfl⟩) ?_)
  | (refine Rg.run rfl _ _ (op_load_key HLb.out HB2.out.2 ⟨_, rfl, rfl⟩) ?_)
  | (refine Rg.run rfl _ _ (op_build HBa.out ⟨_, rfl, rfl⟩) ?_)
  | (refine Rg.run rfl _ _ (op_build HBb.out ⟨_, rfl, rfl⟩) ?_)
  | (refine Rg.run rfl _ _ (op_lit_pairs (x := (A, sx)) (z := (B, sy)) HLa.out HLb.out w2.heap.size rfl ⟨_, _, rfl, rfl, rfl⟩) ?_))
 rw [HLit.out]
 have hL3 := HL2.out.below (al1 w2 (.cells ROW.toArray 47))
 refine (HAll.out w2.heap.size _ (Rg.Own.new _ _ _) hL3).mono ?_
 intro e w4 hG
 obtain ⟨p4, M4, rfl, hT4, hL4, hf4, hb4⟩ := hL3.got hG
 have HL4 := hid hL4
 have HT4 := hid hT4
 have HN := hid (Rg.Own.new w4 #[.pointer none] 26)
 have HFr4 := hid (hL4.i.free (Nat.le_refl _))
 have hz4 := hL4.b.size
 clear hG hT4 hL4 hf4 hb4 hL3 HA1 HB1 HL1 HA2 HB2 HL2 HW HAl HSet HBa HBb HAll HLit HZs
 go_wp2_with (first
  | (refine Rg.run rfl _ _ (run_alloc_tree _ _ _ w4.heap.size rfl rfl) ?_)
  | (refine wpl_store_tree HN.out (by decide) p4 rfl _ _ rfl rfl rfl ?_; intro w5 hO5 hu5; have HA0 : Hid (A9 w M4 w5 w4.heap.size p4 TT) := hid ⟨(HL4.out.below (al1 _ _)).upd hu5 hz4 HFr4.out, ⟨hO5, HFr4.out, one_no p4⟩, HT4.out⟩; clear hO5 hu5))
 obtain ⟨g3, hg3⟩ : ∃ g3, w4.heap.size = g3 := ⟨_, rfl⟩
 rw [hg3] at HA0
 rw [hg3]
 clear HN HL4 HT4 HFr4 hz4 hg3
 try simp only [Act.put, Rg.s]
 go_cut [4, 5] (fun v4 v5 wx => ∃ (b8 : Nat) (pu : Option Addr) (M' : Mp), v4 = .pointer (some ⟨b8, 0, none⟩) ∧ v5 = .int .i64 0 ∧ Hid (A9 w M' wx g3 p4 TT) ∧ Hid (Bx M' wx b8 #[.pointer pu] 26) ∧ Hid (IsT M' pu TT))
 case first =>
  have HA : Hid (A9 w M4 w5.drew g3 p4 TT) := hid (HA0.out.below (below_drewN (Below.refl _ _) 1))
  clear HA0
  refine wp_region_noPanic ?_
  refine wp_region_held_drew (S := fun w' => w'.cell? ⟨g3, 0, none⟩ = some (.pointer p4)) (by kernel_rfl) (own_cell (j := 0) HA.out.bT.o rfl) (fun hld => ?_)
  refine Rg.tk (i := 0) rfl ?_ (hy := by intro wz hSw; (refine op_load_tree hSw ?_; exact ⟨_, rfl, rfl⟩))
  try simp only [Act.put, Rg.s]
  refine Rg.tk (i := 2) rfl ?_ (hy := by intro wz hSw; (refine op_load_tree hSw ?_; exact ⟨_, rfl, rfl⟩))
  try simp only [Act.put, Rg.s]
  refine wpAnyH_ready (rs := [1, 8]) (by kernel_rfl) (by simp) ?_
  refine Rg.readyC (i := 1) rfl (fun K hK => ?_) (Rg.readyL (i := 8) rfl (fun K hK => ?_))
  ·go_simp
   go_at_call 10
   (with_reducible refine (HOfc.out M4 _ p4 HA.out.l.i HA.out.hT HA.out.l.t).mono ?_)
   intro e y1 hG
   obtain ⟨rfl, hA, f⟩ := HA.out.say hG
   replace HA := hid hA
   clear hG hA f
   refine hK.out _ _ ?_ (fun hld => ?_)
   ·exact own_cell (j := 0) HA.out.bT.o rfl
   clear hK K
   try simp only [Act.put, Rg.s]
   refine wpAnyH_ready (rs := [3, 8]) (by kernel_rfl) (by simp) ?_
   refine Rg.readyC (i := 3) rfl (fun K hK => ?_) (Rg.readyL (i := 8) rfl (fun K hK => ?_))
   ·go_simp
    go_at_call 15
    (with_reducible refine (HBd.out M4 _ p4 HA.out.l.i HA.out.hT HA.out.l.t).mono ?_)
    rintro e y2 ⟨a, n, c, rfl, hst, hnew, f, i, t⟩
    have HSt : Hid (IsSt y2 a n c _ ∧ ∀ b off, a = some ⟨b, off, none⟩ → M4.at_ b = none) := hid ⟨hst, fun b off e => HA.out.l.i.out (hnew b off e)⟩
    replace HA := hid (HA.out.fr f i t)
    clear hst hnew f i t
    refine hK.out _ _ ?_ (fun hld => ?_)
    ·exact own_cell (j := 0) HA.out.bT.o rfl
    clear hK K
    try simp only [Act.put, Rg.s]
    refine wpAnyH_ready (rs := [4, 8]) (by kernel_rfl) (by simp) ?_
    refine Rg.readyC (i := 4) rfl (fun K hK => ?_) (Rg.readyL (i := 8) rfl (fun K hK => ?_))
    ·go_simp
     go_at_call 25
     (with_reducible refine (HLd.out M4 _ a n c HA.out.l.i HA.out.l.t HSt.out.1 HSt.out.2).mono ?_)
     rintro e y3 ⟨pu, M', rfl, hu, f, i, t⟩
     have HU := hid hu
     replace HA := hid (HA.out.fr f i t)
     clear hu f i t HSt
     refine hK.out _ _ ?_ (fun hld => ?_)
     ·exact own_cell (j := 0) HA.out.bT.o rfl
     clear hK K
     try simp only [Act.put, Rg.s]
     refine Rg.tk (i := 5) rfl ?_
     try simp only [Act.put, Rg.s]
     refine Rg.tk (i := 6) rfl ?_
     try simp only [Act.put, Rg.s]
     refine Rg.tk (i := 7) rfl ?_
     try simp only [Act.put, Rg.s]
     refine Rg.rd (i := 8) rfl fun K hK => ?_
     refine Rg.meetAlloc (by rfl) (run_alloc_tree _ _ _ _ rfl rfl) ?_
     rintro y4 b8 he8 h8 hbx
     have HB8 : Hid (Bx M' y4 b8 #[.pointer none] 26) := hid ⟨h8, HA.out.l.i.free (by rw [he8]; exact Nat.le_refl _), one_no none⟩
     have ge8 : w.heap.size ≤ b8 := by rw [he8]; exact HA.out.l.b.size
     have ne8 : b8 ≠ g3 := by have := HA.out.bT.o.1; omega
     replace HA := hid (HA.out.below hbx)
     clear he8 h8 hbx
     refine hK.out _ _ ?_ (fun hld => ?_)
     ·exact own_cell (j := 0) HA.out.bT.o rfl
     clear hK K
     try simp only [Act.put, Rg.s]
     refine Rg.rd (i := 9) rfl fun K hK => ?_
     refine meet_store_tree (by rfl) HB8.out.o (off := 0) (by decide) pu ⟨_, _, rfl, rfl, rfl⟩ ?_
     intro y5 hO8 hu8
     have HB9 : Hid (Bx M' y5 b8 #[.pointer pu] 26) := hid ⟨hO8, HB8.out.n, one_no pu⟩
     replace HA := hid (HA.out.upd hu8 ge8 HB8.out.n ne8)
     clear hO8 hu8
     refine hK.out _ _ ?_ (fun hld => ?_)
     ·exact own_cell (j := 0) HA.out.bT.o rfl
     clear hK K
     try simp only [Act.put, Rg.s]
     refine Rg.tk (i := 10) rfl ?_
     try simp only [Act.put, Rg.s]
     refine wpAnyH_done (by kernel_rfl) ?_ _
     refine NoPanic.normal ?_
     go_wp2
     go_meet
     exact ⟨b8, pu, M', rfl, rfl, HA, HB9, HU⟩
    ·refine Rg.meetAlloc (by rfl) (run_alloc_tree _ _ _ _ rfl rfl) ?_
     rintro y3 b8 he8 h8 hbx
     have HB8 : Hid (Bx M4 y3 b8 #[.pointer none] 26) := hid ⟨h8, HA.out.l.i.free (by rw [he8]; exact Nat.le_refl _), one_no none⟩
     have ge8 : w.heap.size ≤ b8 := by rw [he8]; exact HA.out.l.b.size
     have ne8 : b8 ≠ g3 := by have := HA.out.bT.o.1; omega
     replace HA := hid (HA.out.below hbx)
     replace HSt := hid (⟨HSt.out.1.below hbx, HSt.out.2⟩ : IsSt y3 a n c _ ∧ ∀ b off, a = some ⟨b, off, none⟩ → M4.at_ b = none)
     clear he8 h8 hbx
     refine hK.out _ _ ?_ (fun hld => ?_)
     ·exact own_cell (j := 0) HA.out.bT.o rfl
     clear hK K
     try simp only [Act.put, Rg.s]
     refine Rg.rd (i := 4) rfl fun K hK => ?_
     go_simp
     go_at_call 25
     (with_reducible refine (HLd.out M4 _ a n c HA.out.l.i HA.out.l.t HSt.out.1 HSt.out.2).mono ?_)
     rintro e y4 ⟨pu, M', rfl, hu, f, i, t⟩
     have HU := hid hu
     replace HB8 := hid (HB8.out.frm HA.out.l.i f)
     replace HA := hid (HA.out.fr f i t)
     clear hu f i t HSt
     refine hK.out _ _ ?_ (fun hld => ?_)
     ·exact own_cell (j := 0) HA.out.bT.o rfl
     clear hK K
     try simp only [Act.put, Rg.s]
     refine Rg.tk (i := 5) rfl ?_
     try simp only [Act.put, Rg.s]
     refine Rg.tk (i := 6) rfl ?_
     try simp only [Act.put, Rg.s]
     refine Rg.tk (i := 7) rfl ?_
     try simp only [Act.put, Rg.s]
     refine Rg.rd (i := 9) rfl fun K hK => ?_
     refine meet_store_tree (by rfl) HB8.out.o (off := 0) (by decide) pu ⟨_, _, rfl, rfl, rfl⟩ ?_
     intro y5 hO8 hu8
     have HB9 : Hid (Bx M' y5 b8 #[.pointer pu] 26) := hid ⟨hO8, HB8.out.n, one_no pu⟩
     replace HA := hid (HA.out.upd hu8 ge8 HB8.out.n ne8)
     clear hO8 hu8
     refine hK.out _ _ ?_ (fun hld => ?_)
     ·exact own_cell (j := 0) HA.out.bT.o rfl
     clear hK K
     try simp only [Act.put, Rg.s]
     refine Rg.tk (i := 10) rfl ?_
     try simp only [Act.put, Rg.s]
     refine wpAnyH_done (by kernel_rfl) ?_ _
     refine NoPanic.normal ?_
     go_wp2
     go_meet
     exact ⟨b8, pu, M', rfl, rfl, HA, HB9, HU⟩
   ·refine Rg.meetAlloc (by rfl) (run_alloc_tree _ _ _ _ rfl rfl) ?_
    rintro y2 b8 he8 h8 hbx
    have HB8 : Hid (Bx M4 y2 b8 #[.pointer none] 26) := hid ⟨h8, HA.out.l.i.free (by rw [he8]; exact Nat.le_refl _), one_no none⟩
    have ge8 : w.heap.size ≤ b8 := by rw [he8]; exact HA.out.l.b.size
    have ne8 : b8 ≠ g3 := by have := HA.out.bT.o.1; omega
    replace HA := hid (HA.out.below hbx)
    clear he8 h8 hbx
    refine hK.out _ _ ?_ (fun hld => ?_)
    ·exact own_cell (j := 0) HA.out.bT.o rfl
    clear hK K
    try simp only [Act.put, Rg.s]
    refine Rg.rd (i := 3) rfl fun K hK => ?_
    go_simp
    go_at_call 15
    (with_reducible refine (HBd.out M4 _ p4 HA.out.l.i HA.out.hT HA.out.l.t).mono ?_)
    rintro e y3 ⟨a, n, c, rfl, hst, hnew, f, i, t⟩
    have HSt : Hid (IsSt y3 a n c _ ∧ ∀ b off, a = some ⟨b, off, none⟩ → M4.at_ b = none) := hid ⟨hst, fun b off e => HA.out.l.i.out (hnew b off e)⟩
    replace HB8 := hid (HB8.out.frm HA.out.l.i f)
    replace HA := hid (HA.out.fr f i t)
    clear hst hnew f i t
    refine hK.out _ _ ?_ (fun hld => ?_)
    ·exact own_cell (j := 0) HA.out.bT.o rfl
    clear hK K
    try simp only [Act.put, Rg.s]
    refine Rg.rd (i := 4) rfl fun K hK => ?_
    go_simp
    go_at_call 25
    (with_reducible refine (HLd.out M4 _ a n c HA.out.l.i HA.out.l.t HSt.out.1 HSt.out.2).mono ?_)
    rintro e y4 ⟨pu, M', rfl, hu, f, i, t⟩
    have HU := hid hu
    replace HB8 := hid (HB8.out.frm HA.out.l.i f)
    replace HA := hid (HA.out.fr f i t)
    clear hu f i t HSt
    refine hK.out _ _ ?_ (fun hld => ?_)
    ·exact own_cell (j := 0) HA.out.bT.o rfl
    clear hK K
    try simp only [Act.put, Rg.s]
    refine Rg.tk (i := 5) rfl ?_
    try simp only [Act.put, Rg.s]
    refine Rg.tk (i := 6) rfl ?_
    try simp only [Act.put, Rg.s]
    refine Rg.tk (i := 7) rfl ?_
    try simp only [Act.put, Rg.s]
    refine Rg.rd (i := 9) rfl fun K hK => ?_
    refine meet_store_tree (by rfl) HB8.out.o (off := 0) (by decide) pu ⟨_, _, rfl, rfl, rfl⟩ ?_
    intro y5 hO8 hu8
    have HB9 : Hid (Bx M' y5 b8 #[.pointer pu] 26) := hid ⟨hO8, HB8.out.n, one_no pu⟩
    replace HA := hid (HA.out.upd hu8 ge8 HB8.out.n ne8)
    clear hO8 hu8
    refine hK.out _ _ ?_ (fun hld => ?_)
    ·exact own_cell (j := 0) HA.out.bT.o rfl
    clear hK K
    try simp only [Act.put, Rg.s]
    refine Rg.tk (i := 10) rfl ?_
    try simp only [Act.put, Rg.s]
    refine wpAnyH_done (by kernel_rfl) ?_ _
    refine NoPanic.normal ?_
    go_wp2
    go_meet
    exact ⟨b8, pu, M', rfl, rfl, HA, HB9, HU⟩
  ·refine Rg.meetAlloc (by rfl) (run_alloc_tree _ _ _ _ rfl rfl) ?_
   rintro y1 b8 he8 h8 hbx
   have HB8 : Hid (Bx M4 y1 b8 #[.pointer none] 26) := hid ⟨h8, HA.out.l.i.free (by rw [he8]; exact Nat.le_refl _), one_no none⟩
   have ge8 : w.heap.size ≤ b8 := by rw [he8]; exact HA.out.l.b.size
   have ne8 : b8 ≠ g3 := by have := HA.out.bT.o.1; omega
   replace HA := hid (HA.out.below hbx)
   clear he8 h8 hbx
   refine hK.out _ _ ?_ (fun hld => ?_)
   ·exact own_cell (j := 0) HA.out.bT.o rfl
   clear hK K
   try simp only [Act.put, Rg.s]
   refine Rg.rd (i := 1) rfl fun K hK => ?_
   go_simp
   go_at_call 10
   (with_reducible refine (HOfc.out M4 _ p4 HA.out.l.i HA.out.hT HA.out.l.t).mono ?_)
   intro e y2 hG
   obtain ⟨rfl, hA, f⟩ := HA.out.say hG
   replace HB8 := hid (HB8.out.frm HA.out.l.i f)
   replace HA := hid hA
   clear hG hA f
   refine hK.out _ _ ?_ (fun hld => ?_)
   ·exact own_cell (j := 0) HA.out.bT.o rfl
   clear hK K
   try simp only [Act.put, Rg.s]
   refine Rg.rd (i := 3) rfl fun K hK => ?_
   go_simp
   go_at_call 15
   (with_reducible refine (HBd.out M4 _ p4 HA.out.l.i HA.out.hT HA.out.l.t).mono ?_)
   rintro e y3 ⟨a, n, c, rfl, hst, hnew, f, i, t⟩
   have HSt : Hid (IsSt y3 a n c _ ∧ ∀ b off, a = some ⟨b, off, none⟩ → M4.at_ b = none) := hid ⟨hst, fun b off e => HA.out.l.i.out (hnew b off e)⟩
   replace HB8 := hid (HB8.out.frm HA.out.l.i f)
   replace HA := hid (HA.out.fr f i t)
   clear hst hnew f i t
   refine hK.out _ _ ?_ (fun hld => ?_)
   ·exact own_cell (j := 0) HA.out.bT.o rfl
   clear hK K
   try simp only [Act.put, Rg.s]
   refine Rg.rd (i := 4) rfl fun K hK => ?_
   go_simp
   go_at_call 25
   (with_reducible refine (HLd.out M4 _ a n c HA.out.l.i HA.out.l.t HSt.out.1 HSt.out.2).mono ?_)
   rintro e y4 ⟨pu, M', rfl, hu, f, i, t⟩
   have HU := hid hu
   replace HB8 := hid (HB8.out.frm HA.out.l.i f)
   replace HA := hid (HA.out.fr f i t)
   clear hu f i t HSt
   refine hK.out _ _ ?_ (fun hld => ?_)
   ·exact own_cell (j := 0) HA.out.bT.o rfl
   clear hK K
   try simp only [Act.put, Rg.s]
   refine Rg.tk (i := 5) rfl ?_
   try simp only [Act.put, Rg.s]
   refine Rg.tk (i := 6) rfl ?_
   try simp only [Act.put, Rg.s]
   refine Rg.tk (i := 7) rfl ?_
   try simp only [Act.put, Rg.s]
   refine Rg.rd (i := 9) rfl fun K hK => ?_
   refine meet_store_tree (by rfl) HB8.out.o (off := 0) (by decide) pu ⟨_, _, rfl, rfl, rfl⟩ ?_
   intro y5 hO8 hu8
   have HB9 : Hid (Bx M' y5 b8 #[.pointer pu] 26) := hid ⟨hO8, HB8.out.n, one_no pu⟩
   replace HA := hid (HA.out.upd hu8 ge8 HB8.out.n ne8)
   clear hO8 hu8
   refine hK.out _ _ ?_ (fun hld => ?_)
   ·exact own_cell (j := 0) HA.out.bT.o rfl
   clear hK K
   try simp only [Act.put, Rg.s]
   refine Rg.tk (i := 10) rfl ?_
   try simp only [Act.put, Rg.s]
   refine wpAnyH_done (by kernel_rfl) ?_ _
   refine NoPanic.normal ?_
   go_wp2
   go_meet
   exact ⟨b8, pu, M', rfl, rfl, HA, HB9, HU⟩
 case rest =>
  obtain ⟨b8, pu, M', rfl, rfl, HA, HB8, HU⟩ := hcut
  clear HA0 HLd HBd
  go_wp2_with (refine Rg.run rfl _ _ (op_build built_nil ⟨_, rfl, rfl⟩) ?_)
  refine (HOf0.out M' _ HA.out.l.i HA.out.l.t).mono ?_
  intro e w6 hG
  obtain ⟨rfl, hA6, f6⟩ := HA.out.say hG
  have HB6 := hid (HB8.out.frm HA.out.l.i f6)
  have HA6 := hid hA6
  clear hG hA6 f6 HA HB8 HOf0
  go_wp2_with fail
  refine (HLd0.out M' w6 none 0 0 HA6.out.l.i HA6.out.l.t).mono ?_
  rintro e w7 ⟨pv, M7, rfl, hv, f7, i7, t7⟩
  obtain rfl : pv = none := hv.nil_iff.2 rfl
  have HA7 := hid (HA6.out.fr f7 i7 t7)
  have HB7 := hid (HB6.out.frm HA6.out.l.i f7)
  have HU7 := hid (HU.out.mono f7.mono)
  have HN7 : Hid (Bx M7 (w7.alloc (.cells #[.pointer none] 26)) w7.heap.size #[.pointer none] 26) := hid ⟨Rg.Own.new _ _ _, HA7.out.l.i.free (Nat.le_refl _), one_no none⟩
  have hge7 : w.heap.size ≤ w7.heap.size := HA7.out.l.b.size
  have hlt7 : g3 < w7.heap.size := HA7.out.bT.o.1
  have hlt8 : b8 < w7.heap.size := HB7.out.o.1
  clear hv f7 i7 t7 HA6 HB6 HU HLd0
  go_wp2_with (first
   | (refine Rg.run rfl _ _ (run_alloc_tree _ _ _ w7.heap.size rfl rfl) ?_)
   | (refine wpl_store_tree HN7.out.o (by decide) none rfl _ _ rfl rfl rfl ?_; intro w8 hO8 hu8; have HX8 : Hid (Ab w M7 w8 g3 p4 b8 pu w7.heap.size TT) := hid (Ab.start (HA7.out.below (al1 _ _)) (HB7.out.below (al1 _ _)) HU7.out hO8 HN7.out.n hu8 hge7 (by omega) (by omega)); clear hO8 hu8)
   | (first | (refine Rg.run rfl _ _ (op_load_tree (own_cell (j := 0) HX8.out.a.bT.o rfl) ⟨_, rfl, rfl⟩) ?_) | (refine Rg.runW ?hw _ _ (op_load_tree (own_cell (j := 0) HX8.out.a.bT.o rfl) ⟨_, rfl, rfl⟩) ?_; case hw => rfl))
   | (first | (refine Rg.run rfl _ _ (op_load_tree (own_cell (j := 0) HX8.out.b.o rfl) ⟨_, rfl, rfl⟩) ?_) | (refine Rg.runW ?hw _ _ (op_load_tree (own_cell (j := 0) HX8.out.b.o rfl) ⟨_, rfl, rfl⟩) ?_; case hw => rfl)))
  obtain ⟨g6, hg6⟩ : ∃ g6, w7.heap.size = g6 := ⟨_, rfl⟩
  rw [hg6] at HX8
  rw [hg6]
  clear HN7 HA7 HB7 HU7 hge7 hlt7 hlt8 hg6
  refine (HSm.out M7 _ p4 pu HX8.out.a.l.i HX8.out.a.hT HX8.out.u HX8.out.a.l.t).mono ?_
  intro e w9 hG
  obtain ⟨rfl, hX⟩ := HX8.out.say hG
  have HX9 := hid hX
  clear hG hX HX8 HSm
  go_wp2_with (first
   | (first | (refine Rg.run rfl _ _ (op_load_tree (own_cell (j := 0) HX9.out.b.o rfl) ⟨_, rfl, rfl⟩) ?_) | (refine Rg.runW ?hw _ _ (op_load_tree (own_cell (j := 0) HX9.out.b.o rfl) ⟨_, rfl, rfl⟩) ?_; case hw => rfl)))
  refine (HWh.out M7 _ pu HX9.out.a.l.i HX9.out.u HX9.out.a.l.t).mono ?_
  intro e w10 hG
  obtain ⟨rfl, hX⟩ := HX9.out.say hG
  have HX10 := hid hX
  clear hG hX HX9 HWh
  go_wp2_with (first
   | (first | (refine Rg.run rfl _ _ (op_load_tree (own_cell (j := 0) HX10.out.a.bT.o rfl) ⟨_, rfl, rfl⟩) ?_) | (refine Rg.runW ?hw _ _ (op_load_tree (own_cell (j := 0) HX10.out.a.bT.o rfl) ⟨_, rfl, rfl⟩) ?_; case hw => rfl)))
  refine (HNd.out M7 _ p4 HX10.out.a.l.i HX10.out.a.hT HX10.out.a.l.t).mono ?_
  rintro e w11 ⟨na, nn, nc, rfl, hst, _, f, i, t⟩
  obtain rfl : nn = 3 := by rw [← hst.len]; exact HLen.out
  have HX11 := hid (HX10.out.fr f i t)
  clear hst f i t HX10 HNd
  go_wp2_with (first
   | (first | (refine Rg.run rfl _ _ (op_load_tree (own_cell (j := 0) HX11.out.v.o rfl) ⟨_, rfl, rfl⟩) ?_) | (refine Rg.runW ?hw _ _ (op_load_tree (own_cell (j := 0) HX11.out.v.o rfl) ⟨_, rfl, rfl⟩) ?_; case hw => rfl)))
  refine (empty_any none w11).mono ?_
  rintro e w12 ⟨rfl, hb12⟩
  have HX12 := hid (HX11.out.below hb12)
  clear hb12 HX11
  go_wp2_with (first
   | (first | (refine Rg.run rfl _ _ (op_load_tree (own_cell (j := 0) HX12.out.a.bT.o rfl) ⟨_, rfl, rfl⟩) ?_) | (refine Rg.runW ?hw _ _ (op_load_tree (own_cell (j := 0) HX12.out.a.bT.o rfl) ⟨_, rfl, rfl⟩) ?_; case hw => rfl)))
  refine (HWt.out M7 _ p4 HX12.out.a.l.i HX12.out.a.hT HX12.out.a.l.t).mono ?_
  intro e w13 hG
  obtain ⟨rfl, hX⟩ := HX12.out.say hG
  have HBe := hid hX.a.l.b
  clear hG hX HX12 HWt
  go_wp2
  go_ret
  exact ⟨rfl, HBe.out⟩
end Tm
end
section
open Go.RowKit
namespace Tm
open Tr Ni Pk Ky No Rf Rl
open Sm (Tab)
theorem isIns_fr {M M' : Mp} {w w' : World} {a : Option Addr} {n c : Nat} {l : List Tr.In} (hi : Inv M w) (h : IsIns w a n c l) (hr : ∀ ad, a = some ad → M.at_ ad.block = none) (f : Fr M M' w w') : IsIns w' a n c l :=
 ⟨h.1, h.2.1, h.2.2.1, h.2.2.2.1, fun j hj => by
  obtain ⟨b, off, hd, e, hlt, hin, hbs⟩ := h.at' j hj
  have hm := hr _ e
  exact ⟨b, off, hd, e, Nat.lt_of_lt_of_le hlt f.size, ⟨by rw [f.cell hlt hm]; exact hin.1, by rw [f.cell hlt hm]; exact hin.2⟩, isBs_fr hi hbs f⟩⟩
theorem isSt_fr {M M' : Mp} {w w' : World} {a : Option Addr} {n c : Nat} {l : List ByteArray} (h : IsSt w a n c l) (hr : ∀ ad, a = some ad → M.at_ ad.block = none) (f : Fr M M' w w') : IsSt w' a n c l :=
 ⟨h.1, h.2.1, h.2.2.1, fun j hj => by
  obtain ⟨b, off, e, hlt, hc⟩ := h.at' j hj
  exact ⟨b, off, e, Nat.lt_of_lt_of_le hlt f.size, by rw [f.cell hlt (hr _ e)]; exact hc⟩⟩
theorem ins_new (l : List Tr.Pair) (a : Option Addr) (n c : Nat) (w : World) (h : IsPs w a n c l) (hn : n ≤ 1000000) :
  Calls Tryz.prog 6 #[.slice a n c] w fun e w' => ∃ a n c, e = .returned (.slice a n c) ∧ IsIns w' a n c (insL l) ∧ (∀ ad, a = some ad → w.heap.size ≤ ad.block) ∧ Below w.heap.size w w' := by
 refine (ins_row l a n c w h hn).mono ?_
 rintro e w' ⟨v, rfl, hr, hb⟩
 have hlt := hr.lt
 obtain ⟨a', n', c', rfl, hd⟩ := hr.done
 exact ⟨a', n', c', rfl, hd, fun ad e => (hlt ad.block (by rw [e]; rfl)).1, hb⟩
structure Rn (w0 : World) (M : Mp) (w : World) (g3 : Nat) (p : Option Addr) (t : T) (l : List Tr.In) (ia : Option Addr) (in_ ic : Nat) (na : Option Addr) (nn nc : Nat) (ba : Option Addr) (bn bc : Nat) : Prop where
 a : A9 w0 M w g3 p t
 i : IsIns w ia in_ ic l
 ir : ∀ ad, ia = some ad → M.at_ ad.block = none
 n : IsSt w na nn nc (nodesT t)
 nr : ∀ ad, na = some ad → M.at_ ad.block = none
 b : IsSt w ba bn bc (bodiesL (nodesT t))
 br : ∀ ad, ba = some ad → M.at_ ad.block = none
namespace Rn
variable {w0 : World} {M : Mp} {w w' : World} {g3 : Nat} {p : Option Addr} {t : T} {l : List Tr.In} {ia : Option Addr} {in_ ic : Nat} {na : Option Addr} {nn nc : Nat} {ba : Option Addr} {bn bc : Nat}
theorem below (h : Rn w0 M w g3 p t l ia in_ ic na nn nc ba bn bc) (hb : Below w.heap.size w w') : Rn w0 M w' g3 p t l ia in_ ic na nn nc ba bn bc := ⟨h.a.below hb, h.i.below hb, h.ir, h.n.below hb, h.nr, h.b.below hb, h.br⟩
theorem fr (h : Rn w0 M w g3 p t l ia in_ ic na nn nc ba bn bc) (f : Fr M M w w') (i : Inv M w') (tt : Tab w') : Rn w0 M w' g3 p t l ia in_ ic na nn nc ba bn bc := ⟨h.a.fr f i tt, isIns_fr h.a.l.i h.i h.ir f, h.ir, isSt_fr h.n h.nr f, h.nr, isSt_fr h.b h.br f, h.br⟩
theorem say {v : Value} {e : Ending} (h : Rn w0 M w g3 p t l ia in_ ic na nn nc ba bn bc) (g : SayP M w v e w') : e = .returned v ∧ Rn w0 M w' g3 p t l ia in_ ic na nn nc ba bn bc := ⟨g.1, h.fr g.2.1 g.2.2.1 g.2.2.2⟩
end Rn
theorem root_walk (l : List Tr.Pair) (a : Option Addr) (n c : Nat) (w : World) (h : IsPs w a n c l) (hT : Tab w) :
  Calls Tryz.prog 3 #[.slice a n c] w fun e w' => e = .returned (.bool true) ∧ Below w.heap.size w w' := by
 have HP := hid (pairs_any l a n c w h)
 have HL0 := hid (Lw.start hT)
 have hok : OkPs (pairsL l) := pairs_ok h.keys
 have hlen := pairs_len l
 have HOk := hid hok
 have htt : putAll .nil (pairsL l) = build 64 (insL (pairsL l)) := hok.has.built hok.1 hok.2
 have hwhl : Whl (putAll .nil (pairsL l)) := ⟨hok.has.fine, hok.has.full, 64, Nat.le_refl _, hok.has.good⟩
 have hil : (insL (pairsL l)).length ≤ 24 := Nat.le_trans (ins_len _) hlen
 have hfew : (nodesT (putAll .nil (pairsL l))).length ≤ 2000 := by
  rw [htt]
  have h1 := nodes_few 64 (insL (pairsL l)) (ok_ins hok.1)
  have h2 : (64 + 1) * (insL (pairsL l)).length ≤ 65 * 24 := Nat.mul_le_mul (Nat.le_refl _) hil
  omega
 have HRn : Hid (∀ W ia in_ ic, IsIns W ia in_ ic (insL (pairsL l)) → in_ ≤ 1000 → Calls Tryz.prog 7 #[.slice ia in_ ic] W (GotS W (nodesT (putAll .nil (pairsL l))))) := hid (fun W ia in_ ic hI hn => by
  rw [htt]
  exact rnodes_any 64 (Nat.le_refl _) _ (ok_ins hok.1) (fine_ins hok.2) ia in_ ic W hI hn)
 have HRe : Hid (∀ W ia in_ ic, IsIns W ia in_ ic (insL (pairsL l)) → in_ ≤ 1000 → Calls Tryz.prog 12 #[.slice ia in_ ic] W fun e w' => e = .returned (.string (encT (putAll .nil (pairsL l)))) ∧ Below W.heap.size W w') := hid (fun W ia in_ ic hI hn => by
  rw [htt]
  exact renc_any 64 (Nat.le_refl _) _ (ok_ins hok.1) (fine_ins hok.2) ia in_ ic W hI (by omega))
 have hsz := hwhl.few
 have HWl := hid hwhl
 have HFw := hid hfew
 have HSz : Hid (∀ s ∈ bodiesL (nodesT (putAll .nil (pairsL l))), s.size ≤ 900000) := hid (fun s hs => hsz s (bodies_mem hs))
 have HIl := hid hil
 have HRt : Hid (∀ W, Calls Tryz.prog 11 #[.string (encT (putAll .nil (pairsL l)))] W fun e w' => e = .returned (.agg (Sm.kc (rootP (encT (putAll .nil (pairsL l)))))) ∧ Below W.heap.size W w') := hid (fun W => r7root_any (encT (putAll .nil (pairsL l))) hwhl.size W)
 have HRl := hid (rootP_length (encT (putAll .nil (pairsL l))))
 obtain ⟨L, hL⟩ : ∃ L, pairsL l = L := ⟨_, rfl⟩
 rw [hL] at HP HOk hlen HRn HRe HWl HFw HSz HIl HRt HRl
 clear h hT hL hok htt hwhl hil hfew hsz
 go_enter Tryz.func3, Tryz.ntmps3
 go_wp2_with fail
 refine HP.out.mono ?_
 rintro e w1 ⟨la, ln, lc, rfl, hps, hb1⟩
 obtain rfl := hps.len
 have HL1 := hid (HL0.out.below hb1)
 have HPs := hid hps
 clear hps hb1 HL0 HP
 go_wp2_with fail
 refine (of_any M0 la L.length lc L HOk.out w1 HL1.out.i HPs.out (by omega)).mono ?_
 intro e w2 hG
 obtain ⟨p2, M2, rfl, hT2, hL2, hf2, hb2⟩ := HL1.out.got hG
 have HT2 := hid hT2
 have HL2 := hid hL2
 have HP2 := hid (HPs.out.below hb2)
 have HN := hid (Rg.Own.new w2 #[.pointer none] 26)
 have HFr2 := hid (hL2.i.free (Nat.le_refl _))
 have hz2 := hL2.b.size
 obtain ⟨t, ht⟩ : ∃ t, putAll .nil L = t := ⟨_, rfl⟩
 rw [ht] at HT2 HRn HRe HWl HFw HSz HRt HRl
 clear hG hT2 hL2 hf2 hb2 HPs HL1 ht
 go_wp2_with (first
  | (refine Rg.run rfl _ _ (run_alloc_tree _ _ _ w2.heap.size rfl rfl) ?_)
  | (refine wpl_store_tree HN.out (by decide) p2 rfl _ _ rfl rfl rfl ?_; intro w3 hO3 hu3; have HA3 : Hid (A9 w M2 w3 w2.heap.size p2 t) := hid ⟨(HL2.out.below (al1 _ _)).upd hu3 hz2 HFr2.out, ⟨hO3, HFr2.out, one_no p2⟩, HT2.out⟩; have HP3 := hid (HP2.out.below (hu3.below (al1 _ _) (Nat.le_refl _))); clear hO3 hu3))
 obtain ⟨g3, hg3⟩ : ∃ g3, w2.heap.size = g3 := ⟨_, rfl⟩
 rw [hg3] at HA3
 rw [hg3]
 clear HN HL2 HT2 HFr2 hz2 HP2 hg3
 refine (ins_new L la L.length lc w3 HP3.out (by omega)).mono ?_
 rintro e w4 ⟨ia, in_, ic, rfl, hI, hnew, hb4⟩
 have hin : in_ ≤ 24 := by rw [← hI.len]; exact HIl.out
 have HI4 := hid hI
 have HIr : Hid (∀ ad, ia = some ad → M2.at_ ad.block = none) := hid (fun ad e => HA3.out.l.i.out (hnew ad e))
 have HA4 := hid (HA3.out.below hb4)
 clear hI hnew hb4 HA3 HP3
 go_wp2_with fail
 refine (HRn.out w4 ia in_ ic HI4.out (by omega)).mono ?_
 rintro e w5 ⟨v5, rfl, h5, hb5⟩
 have hlt5 := h5.lt
 obtain ⟨na, nc, rfl, hst5⟩ := IsSt.ofOwn h5
 have HN5 := hid hst5
 have HNr : Hid (∀ ad, na = some ad → M2.at_ ad.block = none) := hid (fun ad e => HA4.out.l.i.out (hlt5 ad.block (by rw [e]; rfl)).1)
 have HA5 := hid (HA4.out.below hb5)
 have HI5 := hid (HI4.out.below hb5)
 obtain ⟨nn, hnn⟩ : ∃ nn, (nodesT t).length = nn := ⟨_, rfl⟩
 have hnn2 : nn ≤ 2000 := by rw [← hnn]; exact HFw.out
 rw [hnn] at HN5
 rw [hnn]
 clear h5 hlt5 hst5 hb5 hnn HA4 HI4 HRn
 go_wp2_with fail
 refine (rbodies_new (nodesT t) na nn nc w5 HN5.out (by omega)).mono ?_
 rintro e w6 ⟨ba, bn, bc, rfl, hst6, hbn6, hb6⟩
 have hbr6 : ∀ ad, ba = some ad → M2.at_ ad.block = none := fun ad e => HA5.out.l.i.out (hbn6 ad e)
 have HX6 : Hid (Rn w M2 w6 g3 p2 t (insL L) ia in_ ic na nn nc ba bn bc) := hid ⟨HA5.out.below hb6, HI5.out.below hb6, HIr.out, HN5.out.below hb6, HNr.out, hst6, hbr6⟩
 clear hst6 hbn6 hb6 hbr6 HA5 HI5 HIr HN5 HNr
 go_wp2_with fail
 refine (awake9_any w6 HX6.out.a.l.t).mono ?_
 rintro e w7 ⟨rfl, hb7⟩
 have HX7 := hid (HX6.out.below hb7)
 clear hb7 HX6
 go_wp2_with (first
  | (first | (refine Rg.run rfl _ _ (op_load_tree (own_cell (j := 0) HX7.out.a.bT.o rfl) ⟨_, rfl, rfl⟩) ?_) | (refine Rg.runW ?hw _ _ (op_load_tree (own_cell (j := 0) HX7.out.a.bT.o rfl) ⟨_, rfl, rfl⟩) ?_; case hw => rfl)))
 refine (of_root M2 p2 t HWl.out w7 HX7.out.a.l.i HX7.out.a.hT HX7.out.a.l.t).mono ?_
 intro e w8 hG
 obtain ⟨rfl, hX⟩ := HX7.out.say hG
 have HX8 := hid hX
 have HRe8 := hid (HRe.out w8 ia in_ ic hX.i (by omega))
 obtain ⟨E, hE⟩ : ∃ E, encT t = E := ⟨_, rfl⟩
 rw [hE] at HRe8 HRt HRl
 rw [hE]
 obtain ⟨r, hr⟩ : ∃ r, rootP E = r := ⟨_, rfl⟩
 rw [hr] at HRt HRl
 rw [hr]
 clear hG hX HX7 HRe hE hr
 go_wp2_with fail
 refine HRe8.out.mono ?_
 rintro e w9 ⟨rfl, hb9⟩
 have HX9 := hid (HX8.out.below hb9)
 clear hb9 HX8 HRe8
 go_wp2_with fail
 refine (HRt.out w9).mono ?_
 rintro e w10 ⟨rfl, hb10⟩
 have HX10 := hid (HX9.out.below hb10)
 clear hb10 HX9 HRt
 go_wp2_with (first
  | (refine Rg.runW ?hw _ _ (op_eql_sumsB HRl.out HRl.out (decide_eq_true rfl) ⟨_, _, _, rfl, rfl, rfl⟩) ?_; case hw => rfl)
  | (first | (refine Rg.run rfl _ _ (op_load_tree (own_cell (j := 0) HX10.out.a.bT.o rfl) ⟨_, rfl, rfl⟩) ?_) | (refine Rg.runW ?hw _ _ (op_load_tree (own_cell (j := 0) HX10.out.a.bT.o rfl) ⟨_, rfl, rfl⟩) ?_; case hw => rfl)))
 refine (nodes_any M2 p2 t HWl.out (by have := HFw.out; omega) w10 HX10.out.a.l.i HX10.out.a.hT HX10.out.a.l.t).mono ?_
 rintro e w11 ⟨xa, xn, xc, rfl, hst, _, f, i, tt⟩
 have HX11 := hid (HX10.out.fr f i tt)
 have HSm := hid (rsameSt_any xa na xn nn xc nc (nodesT t) (nodesT t) w11 hst HX11.out.n)
 have hs1 : sameB (nodesT t) (nodesT t) = true := sameB_true rfl
 rw [hs1] at HSm
 clear hst f i tt HX10 hs1
 go_wp2_with fail
 refine HSm.out.mono ?_
 rintro e w12 ⟨rfl, hb12⟩
 have HX12 := hid (HX11.out.below hb12)
 clear hb12 HX11 HSm
 go_wp2_with (first
  | (first | (refine Rg.run rfl _ _ (op_load_tree (own_cell (j := 0) HX12.out.a.bT.o rfl) ⟨_, rfl, rfl⟩) ?_) | (refine Rg.runW ?hw _ _ (op_load_tree (own_cell (j := 0) HX12.out.a.bT.o rfl) ⟨_, rfl, rfl⟩) ?_; case hw => rfl)))
 refine (bodies_any M2 p2 t HWl.out (by have := HFw.out; omega) w12 HX12.out.a.l.i HX12.out.a.hT HX12.out.a.l.t).mono ?_
 rintro e w13 ⟨ya, yn, yc, rfl, hst, _, f, i, tt⟩
 have HX13 := hid (HX12.out.fr f i tt)
 have HSm := hid (rsameSt_any ya ba yn bn yc bc (bodiesL (nodesT t)) (bodiesL (nodesT t)) w13 hst HX13.out.b)
 have hs1 : sameB (bodiesL (nodesT t)) (bodiesL (nodesT t)) = true := sameB_true rfl
 rw [hs1] at HSm
 clear hst f i tt HX12 hs1
 go_wp2_with fail
 refine HSm.out.mono ?_
 rintro e w14 ⟨rfl, hb14⟩
 have HX14 := hid (HX13.out.below hb14)
 clear hb14 HX13 HSm
 go_wp2_with (first
  | (first | (refine Rg.run rfl _ _ (op_load_tree (own_cell (j := 0) HX14.out.a.bT.o rfl) ⟨_, rfl, rfl⟩) ?_) | (refine Rg.runW ?hw _ _ (op_load_tree (own_cell (j := 0) HX14.out.a.bT.o rfl) ⟨_, rfl, rfl⟩) ?_; case hw => rfl)))
 refine (weight_any M2 p2 t HWl.out (by have := HFw.out; omega) w14 HX14.out.a.l.i HX14.out.a.hT HX14.out.a.l.t).mono ?_
 intro e w15 hG
 obtain ⟨rfl, hX⟩ := HX14.out.say hG
 have HX15 := hid hX
 have hbn : bn ≤ 1000000 := by
  rw [← hX.b.len]
  have h1 := bodies_len (nodesT t)
  have h2 := HFw.out
  omega
 have HRw := hid (rweight_any (bodiesL (nodesT t)) HSz.out ba bn bc w15 hX.b hbn)
 obtain ⟨m, hm⟩ : ∃ m, weightL (bodiesL (nodesT t)) = m := ⟨_, rfl⟩
 rw [hm] at HRw
 rw [hm]
 clear hG hX HX14 hm hbn
 go_wp2_with fail
 refine HRw.out.mono ?_
 rintro e w16 ⟨rfl, hb16⟩
 have HX16 := hid (HX15.out.below hb16)
 clear hb16 HX15 HRw
 go_wp2_with (first
  | (first | (refine Rg.run rfl _ _ (op_load_tree (own_cell (j := 0) HX16.out.a.bT.o rfl) ⟨_, rfl, rfl⟩) ?_) | (refine Rg.runW ?hw _ _ (op_load_tree (own_cell (j := 0) HX16.out.a.bT.o rfl) ⟨_, rfl, rfl⟩) ?_; case hw => rfl)))
 refine (whole_any M2 p2 t HWl.out (by have := HFw.out; omega) w16 HX16.out.a.l.i HX16.out.a.hT HX16.out.a.l.t).mono ?_
 intro e w17 hG
 obtain ⟨rfl, hX⟩ := HX16.out.say hG
 have HBe := hid hX.a.l.b
 clear hG hX HX16
 go_wp2
 go_ret
 exact ⟨rfl, HBe.out⟩
end Tm
end
section
open Go.RowKit Go.ChangeShapes Go.WideShapes
end
section
open Go.ChangeShapes Go.WideShapes Go.ChangeAt Go.WideMaps Go.WideElems Go.RowKit
namespace Sm
open Sh
theorem gRounds : Tryz.prog.globalNamed "dormouse/sum.rounds" = some 0 := by kernel_rfl
theorem tRounds : (Tryz.prog.globals[0]?).map (·.type) = some 141 := by kernel_rfl
theorem laid_eq {H : Type} : (Rows.laid_dormouse_sum_rounds : DataW H) = .agg ((List.range 64).map fun i => .lit (.int .u32 (kN i : Nat))) := rfl
theorem cells_u32 : Tryz.prog.cellsOf 96 = 1 := by kernel_rfl
theorem tab_of_laid {W : World} (h : laidMetH Tryz.prog [("dormouse/sum.rounds", Rows.laid_dormouse_sum_rounds)] W) : Tab W := by
 rw [MakeChecks.laidMetH_plain _ _ _ (by kernel_rfl)] at h
 obtain ⟨ps, ⟨g0, t0, cs0, f0, p0, q0, hg0, ht0, hv0, hd0, _⟩, _, _⟩ := h
 obtain rfl := Option.some.inj (gRounds.symm.trans hg0)
 obtain rfl := Option.some.inj (tRounds.symm.trans ht0)
 obtain ⟨xs, m1, rfl, hx1, hlen, hn3, hel⟩ := DataW.trod_array Tryz.underlying141 hd0
 rw [laid_eq] at hx1
 simp only [Prod.mk.injEq, DataW.agg.injEq] at hx1
 intro i hi
 have h1 := hel i hi
 rw [cells_u32, Nat.mul_one] at h1
 have hi2 : i < xs.length := by omega
 rw [List.getElem?_eq_getElem hi2] at h1
 obtain ⟨n, e1, e2, _⟩ := DataW.trod_int Tryz.underlying96 h1
 have e3 := congrArg (fun l => l[i]?) hx1.1
 simp only [List.getElem?_map, List.getElem?_eq_getElem hi2, List.getElem?_range hi, Option.map_some, e2] at e3
 have e4 : n = (kN i : Nat) := by
  have := Option.some.inj e3
  simpa using this.symm
 subst e4
 rw [World.var?_cell hg0 hv0 i]
 obtain ⟨l⟩ := cs0
 have e5 := congrArg (fun l => l[0]?) e1
 simp only [List.getElem?_take, List.getElem?_drop, Nat.add_zero] at e5
 simpa using e5
end Sm
end
end Go.Proofs.YtooklabipgmolaaGreatDoor
