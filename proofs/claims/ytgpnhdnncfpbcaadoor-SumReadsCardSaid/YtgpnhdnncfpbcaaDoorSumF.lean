/-
  Contracts of sum.Parts, sum.Text, sum.Less, sum.From.
-/
import Derived.Test.YtgpnhdnncfpbcaaDoorSumE
import Derived.Test.YtgpnhdnncfpbcaaDoorWideT
import Derived.Test.YtgpnhdnncfpbcaaDoorNibL
import Derived.Lib.BufferWrite
import Derived.Lib.SlBuf
import Derived.Laws.ResultCell
namespace Go.Proofs.YtgpnhdnncfpbcaaDoor
open Go.RowKit

namespace Sm
open Sh
/-- the rounds' numbers lie where they ought to -/
def Tab (w : World) : Prop := ∀ i, i < 64 → w.cell? ⟨0, i, none⟩ = some (.int .u32 (kN i : Nat))
theorem Tab.pos {w : World} (h : Tab w) : 0 < w.heap.size := World.block_lt_of_cell? w _ (h 0 (by omega))
theorem Tab.below {w w' : World} (h : Tab w) {B : Nat} (hb : Below B w w') (hB : 0 < B) : Tab w' := fun i hi => (hb.cell (p := ⟨0, i, none⟩) hB).trans (h i hi)

set_option maxHeartbeats 1000000 in
theorem parts_any (a : Option Addr) (n cap : Nat) (xs : List ByteArray) (w : World) (hn : xs.length = n) (hmax : n ≤ maxLen)
    (hcell : ∀ j, j < n → ∃ sb off, a = some ⟨sb, off, none⟩ ∧ sb < w.heap.size ∧ w.cell? ⟨sb, off + j, none⟩ = some (.string (xs.getD j ByteArray.empty)))
    (hsz : ∀ j, j < n → (xs.getD j ByteArray.empty).size < 2 ^ 62)
    (hlen : (Tx.textsL xs).length ≤ 900000) (hT : Tab w) :
    Calls Tryd.prog 10 #[.slice a n cap] w fun e w' => e = .returned (.agg (kc (sumL (Tx.textsL xs)))) ∧ Below w.heap.size w w' := by
  have HX := Lib.hid (Tx.texts_any a n cap xs (w.alloc (.cells (kc zk) 27)) hn hmax (fun j hj => by
    obtain ⟨sb, off, h1, h2, h3⟩ := hcell j hj
    exact ⟨sb, off, h1, by simp; omega, (World.cell?_alloc_lt w _ ⟨sb, off + j, none⟩ h2).trans h3⟩) hsz (by omega))
  have hsz2 : (⟨(Tx.textsL xs).toArray⟩ : ByteArray).size ≤ 900000 := by rw [ba_size]; exact hlen
  have HO := Lib.hid (fun W hk => of_any ⟨(Tx.textsL xs).toArray⟩ hsz2 W hk)
  have HT := Lib.hid hT
  have h0 := hT.pos
  have HKl := Lib.hid (sumL_length (Tx.textsL xs))
  obtain ⟨t, ht⟩ : ∃ t, (⟨(Tx.textsL xs).toArray⟩ : ByteArray) = t := ⟨_, rfl⟩
  have hd : t.data.toList = Tx.textsL xs := by rw [← ht]
  rw [ht] at HX HO
  rw [hd] at HO
  obtain ⟨K, hK⟩ : ∃ K, sumL (Tx.textsL xs) = K := ⟨_, rfl⟩
  rw [hK] at HO HKl ⊢
  clear hK hd ht hT hn hmax hcell hsz hlen hsz2
  go_enter Tryd.func10, Tryd.ntmps10
  go_wp2_with (refine wpList_run rfl _ _ (run_alloc_sum _ _ rfl _ _ rfl) ?_)
  refine HX.out.mono ?_
  rintro e w1 ⟨rfl, hb1⟩
  have hB1 : Below w.heap.size w w1 := ((Below.refl _ _).alloc (Nat.le_refl _) _).trans (hb1.mono (by simp))
  have H1 : Rg.Own w1 w.heap.size (kc zk) 27 := (Rg.Own.new w _ _).below hb1
  clear hb1
  go_wp2_with fail
  refine (HO.out _ (HT.out.below hB1 h0)).mono ?_
  rintro e w2 ⟨rfl, hb2⟩
  have hB2 := Lib.hid (hB1.trans (hb2.mono hB1.size))
  have H2 := Lib.hid (H1.below hb2)
  clear hB1 H1 hb2
  go_wp2_with (refine wpList_store_rowTo rfl 27 _ _ rfl rfl _ (kc K) rfl rfl 27 (kc zk) H2.out.2 (info_kc K HKl.out) (by rw [kc_size, kc_size, HKl.out]; rfl) (kc_one _) ?_)
  exact bodyPost_ret (results_cell_row rfl _ _ w.heap.size 27 (kc K) (0, 0) _ rfl (setRow_heap _ _ _ _ _ _ H2.out.2) Tryd.underlying27 rfl (info_kc K HKl.out)) rfl ⟨rfl, below_row hB2.out (by omega) _⟩

/-- an array's cells, boxed, as a slice of bytes -/
theorem isBs_kc (w : World) (k : List UInt8) (hk : k.length = 32) : IsBs (w.alloc (.cells (kc k) 27)) (some ⟨w.heap.size, 0, none⟩) 32 32 k := by
  have h := IsBs.new w k (by unfold maxLen; omega) (kc k) 27 rfl
  rw [hk] at h
  exact h

set_option maxHeartbeats 1000000 in
theorem text_any (k : List UInt8) (hk : k.length = 32) (w : World) :
    Calls Tryd.prog 7 #[.agg (kc k)] w fun e w' => e = .returned (.string ⟨k.toArray⟩) ∧ Below w.heap.size w w' := by
  have hcv := conv_bs (isBs_kc w k hk)
  obtain ⟨C, hC⟩ : ∃ C, kc k = C := ⟨_, rfl⟩
  obtain ⟨T, hT⟩ : ∃ T, (⟨k.toArray⟩ : ByteArray) = T := ⟨_, rfl⟩
  rw [hC, hT] at hcv
  rw [hC, hT]
  clear hC hT hk
  go_enter Tryd.func7, Tryd.ntmps7
  go_wp2
  go_ret
  exact ⟨rfl, (Below.refl _ _).alloc (Nat.le_refl _) _⟩

set_option maxHeartbeats 1000000 in
theorem less_any (x y : List UInt8) (hx : x.length = 32) (hy : y.length = 32) (w : World) :
    Calls Tryd.prog 16 #[.agg (kc x), .agg (kc y)] w fun e w' => e = .returned (.bool (Op.bytesLess x y)) ∧ Below w.heap.size w w' := by
  have h1 := (isBs_kc w x hx).alloc (.cells (kc y) 27)
  have h2 := isBs_kc (w.alloc (.cells (kc x) 27)) y hy
  rw [show (w.alloc (.cells (kc x) 27)).heap.size = w.heap.size + 1 by simp] at h2
  have HC : Hid (∀ q, Calls Tryd.prog 27 #[.slice (some ⟨w.heap.size, 0, none⟩) 32 32, .slice (some ⟨w.heap.size + 1, 0, none⟩) 32 32] ((((w.alloc (.cells (kc x) 27)).alloc (.cells (kc y) 27))).drewN q) fun e w' => e = .returned (.int .i64 (Lib.compareBytes x y)) ∧ w' = ((w.alloc (.cells (kc x) 27)).alloc (.cells (kc y) 27)).drewN q) :=
    Lib.hid (fun q => (Ni.compare_any _ _ _ _ _ _ x y _ (h1.drewN q) (h2.drewN q)).mono (fun _ _ h => ⟨h.1, h.2.symm⟩))
  have he := Lib.hid (Ni.cmp_less x y)
  obtain ⟨A, hA⟩ : ∃ C, kc x = C := ⟨_, rfl⟩
  obtain ⟨B, hB⟩ : ∃ C, kc y = C := ⟨_, rfl⟩
  rw [hA, hB] at HC
  rw [hA, hB]
  obtain ⟨v, hv⟩ : ∃ v, Lib.compareBytes x y = v := ⟨_, rfl⟩
  rw [hv] at HC he
  clear hA hB hx hy h1 h2 hv
  go_enter Tryd.func16, Tryd.ntmps16
  go_wp2_with fail
  go_quiet ((go_at_call 27; exact Calls.quiet_of_same (HC.out _)))
  go_wp2
  go_ret
  refine ⟨by rw [he.out]; rfl, below_drewN (((Below.refl _ _).alloc (Nat.le_refl _) _).alloc (by simp) _) _⟩

/-- two blocks for a sum, the second one's cells out into the first -/
theorem res_sum {fn : Func} (hfn : fn.results = #[.cell 2 27, .tmp 3]) (tmps : Array Value) (w : World) (g : Nat) (cs : Array Value) (e : Int) (hp : tmps.getD 2 undef = .pointer (some ⟨g, 0, none⟩)) (he : tmps.getD 3 undef = .int .i64 e)
    (hg : w.heap[g]? = some (.cells cs 27 (0, 0))) (hs : cs.size = 32) : (results fn tmps).run Tryd.prog w = .ok (.tuple #[.agg cs, .int .i64 e]) w := by
  rw [results_cell_tmp (fn := fn) (p := 2) (u := 3) (ty := 27) hfn, hp, he]
  have := run_loadVar_row (P := Tryd.prog) w g 27 27 cs (0, 0) _ hg Tryd.underlying27 rfl (by rw [hs]; exact info_sum)
  simp [asAddr, this]

set_option maxHeartbeats 1000000 in
theorem from_short (s : ByteArray) (hs : s.size < 32) (w : World) :
    Calls Tryd.prog 14 #[.string s] w fun e w' => e = .returned (.tuple #[.agg (kc zk), .int .i64 5]) ∧ Below w.heap.size w w' := by
  have H1 : Hid (((w.alloc (.cells (kc zk) 27)).alloc (.cells (kc zk) 27)).heap[w.heap.size]? = some (.cells (kc zk) 27 (0, 0))) := Lib.hid ((Lib.alloc_old _ _ _ (by simp)).trans (heap_alloc_new _ _))
  have H2 : Hid (((w.alloc (.cells (kc zk) 27)).alloc (.cells (kc zk) 27)).heap[w.heap.size + 1]? = some (.cells (kc zk) 27 (0, 0))) := Lib.hid (by have := heap_alloc_new (w.alloc (.cells (kc zk) 27)) (.cells (kc zk) 27); simpa using this)
  have hz : (s.size : Int) < 32 := by omega
  go_enter Tryd.func14, Tryd.ntmps14
  go_wp2_with (first | (refine wpList_run (o := ⟨some 2, _, _, _, _, _⟩) rfl _ _ (run_alloc_sum _ _ rfl _ w.heap.size rfl) ?_) | (refine wpList_run (o := ⟨some 4, _, _, _, _, _⟩) rfl _ _ (run_alloc_sum _ _ rfl _ (w.heap.size + 1) (by simp)) ?_) | (refine wpList_load_row rfl _ _ rfl (w.heap.size + 1) rfl 27 (kc zk) (0, 0) _ H2.out Tryd.underlying27 rfl (info_kc zk rfl) ?_) | (refine wpList_store_rowTo rfl 27 _ _ rfl rfl _ (kc zk) rfl rfl 27 (kc zk) H1.out (info_kc zk rfl) rfl (kc_one _) ?_))
  exact bodyPost_ret (res_sum rfl _ _ _ _ _ rfl rfl (setRow_heap _ _ _ _ _ _ H1.out) rfl) rfl ⟨rfl, below_row (((Below.refl _ _).alloc (Nat.le_refl _) _).alloc (by simp) _) (Nat.le_refl _) _⟩

set_option maxHeartbeats 1000000 in
theorem from_long (s : ByteArray) (hs : 32 < s.size) (hm : s.size ≤ maxLen) (w : World) :
    Calls Tryd.prog 14 #[.string s] w fun e w' => e = .returned (.tuple #[.agg (kc zk), .int .i64 6]) ∧ Below w.heap.size w w' := by
  unfold maxLen at hm
  have H1 : Hid (((w.alloc (.cells (kc zk) 27)).alloc (.cells (kc zk) 27)).heap[w.heap.size]? = some (.cells (kc zk) 27 (0, 0))) := Lib.hid ((Lib.alloc_old _ _ _ (by simp)).trans (heap_alloc_new _ _))
  have H2 : Hid (((w.alloc (.cells (kc zk) 27)).alloc (.cells (kc zk) 27)).heap[w.heap.size + 1]? = some (.cells (kc zk) 27 (0, 0))) := Lib.hid (by have := heap_alloc_new (w.alloc (.cells (kc zk) 27)) (.cells (kc zk) 27); simpa using this)
  have hz : ¬ (s.size : Int) < 32 := by omega
  have hz2 : 32 < (s.size : Int) := by omega
  go_enter Tryd.func14, Tryd.ntmps14
  go_wp2_with (first | (refine wpList_run (o := ⟨some 2, _, _, _, _, _⟩) rfl _ _ (run_alloc_sum _ _ rfl _ w.heap.size rfl) ?_) | (refine wpList_run (o := ⟨some 4, _, _, _, _, _⟩) rfl _ _ (run_alloc_sum _ _ rfl _ (w.heap.size + 1) (by simp)) ?_) | (refine wpList_load_row rfl _ _ rfl (w.heap.size + 1) rfl 27 (kc zk) (0, 0) _ H2.out Tryd.underlying27 rfl (info_kc zk rfl) ?_) | (refine wpList_store_rowTo rfl 27 _ _ rfl rfl _ (kc zk) rfl rfl 27 (kc zk) H1.out (info_kc zk rfl) rfl (kc_one _) ?_))
  exact bodyPost_ret (res_sum rfl _ _ _ _ _ rfl rfl (setRow_heap _ _ _ _ _ _ H1.out) rfl) rfl ⟨rfl, below_row (((Below.refl _ _).alloc (Nat.le_refl _) _).alloc (by simp) _) (Nat.le_refl _) _⟩

set_option maxHeartbeats 1000000 in
theorem from_ok (s : ByteArray) (hs : s.size = 32) (w : World) :
    Calls Tryd.prog 14 #[.string s] w fun e w' => e = .returned (.tuple #[.agg (kc s.data.toList), .int .i64 0]) ∧ Below w.heap.size w w' := by
  have hl : s.data.toList.length = 32 := by simpa using hs
  have h1 : ((w.alloc (.cells (kc zk) 27)).alloc (.cells (kc zk) 27)).heap[w.heap.size]? = some (.cells (kc zk) 27 (0, 0)) := (Lib.alloc_old _ _ _ (by simp)).trans (heap_alloc_new _ _)
  have h2 : ((w.alloc (.cells (kc zk) 27)).alloc (.cells (kc zk) 27)).heap[w.heap.size + 1]? = some (.cells (kc zk) 27 (0, 0)) := by have := heap_alloc_new (w.alloc (.cells (kc zk) 27)) (.cells (kc zk) 27); simpa using this
  have hcp := Lib.run_copy_row_string (P := Tryd.prog) _ 38 9 3 5 (w.heap.size + 1) 0 32 32 s (kc zk) 27 Tryd.underlying38 (by kernel_rfl) h2 (by omega) (by rw [kc_size, zk_length]; omega)
  have e : (List.take 0 (kc zk).toList ++ Lib.byteCells s.data.toList ++ List.drop (0 + s.size) (kc zk).toList).toArray = kc s.data.toList := by
    rw [List.drop_of_length_le (by rw [hs]; simp [kc_size, zk_length])]
    simp [kc, Lib.byteCells]
  rw [e] at hcp
  have H1 : Hid ((((w.alloc (.cells (kc zk) 27)).alloc (.cells (kc zk) 27)).setRow (w.heap.size + 1) (kc s.data.toList)).heap[w.heap.size]? = some (.cells (kc zk) 27 (0, 0))) := Lib.hid ((setRow_other _ _ _ _ (by omega)).trans h1)
  have H2 : Hid ((((w.alloc (.cells (kc zk) 27)).alloc (.cells (kc zk) 27)).setRow (w.heap.size + 1) (kc s.data.toList)).heap[w.heap.size + 1]? = some (.cells (kc s.data.toList) 27 (0, 0))) := Lib.hid (setRow_heap _ _ _ _ _ _ h2)
  have hz : ¬ (s.size : Int) < 32 := by omega
  have hz2 : ¬ 32 < (s.size : Int) := by omega
  obtain ⟨K, hK⟩ : ∃ K, s.data.toList = K := ⟨_, rfl⟩
  rw [hK] at hcp H1 H2 hl ⊢
  have HKl := Lib.hid hl
  have HCP := Lib.hid hcp
  clear h1 h2 e hK hl hs hcp
  go_enter Tryd.func14, Tryd.ntmps14
  go_wp2_with (first | (refine wpList_run (o := ⟨some 2, _, _, _, _, _⟩) rfl _ _ (run_alloc_sum _ _ rfl _ w.heap.size rfl) ?_) | (refine wpList_run (o := ⟨some 4, _, _, _, _, _⟩) rfl _ _ (run_alloc_sum _ _ rfl _ (w.heap.size + 1) (by simp)) ?_))
  rw [HCP.out]
  go_wp2_with (first | (refine wpList_load_row rfl _ _ rfl (w.heap.size + 1) rfl 27 (kc K) (0, 0) _ H2.out Tryd.underlying27 rfl (info_kc K HKl.out) ?_) | (refine wpList_store_rowTo rfl 27 _ _ rfl rfl _ (kc K) rfl rfl 27 (kc zk) H1.out (info_kc K HKl.out) (by rw [kc_size, kc_size, HKl.out]; rfl) (kc_one _) ?_))
  exact bodyPost_ret (res_sum rfl _ _ _ _ _ rfl rfl (setRow_heap _ _ _ _ _ _ H1.out) (by rw [kc_size]; exact HKl.out)) rfl ⟨rfl, below_row (below_row (((Below.refl _ _).alloc (Nat.le_refl _) _).alloc (by simp) _) (by omega) _) (Nat.le_refl _) _⟩
end Sm
end Go.Proofs.YtgpnhdnncfpbcaaDoor
