/-
  Keys (arrays of 32 bytes) as a walk takes them; contracts of nib.Path and of nib.Key.
-/
import Derived.Test.YtihgiflhjhoghaaNibE
import Derived.Test.YtihgiflhjhoghaaNibL
import Derived.Laws.Cover3
import Derived.Laws.Rows
import Derived.Laws.ResultCell
import Derived.Laws.Tables
import Derived.Laws.Slices
import Derived.Lib.ConvBytes
import Derived.Great.BuildSlice
namespace Go.Proofs.Ytihgiflhjhoghaa
open Go.RowKit

namespace Ky
open Ni
/-- the cells of an array of bytes -/
def kc (k : List UInt8) : Array Value := (k.map fun b => Value.int .u8 b.toNat).toArray
theorem kc_size (k : List UInt8) : (kc k).size = k.length := by simp [kc]
theorem kc_one (k : List UInt8) : (kc k).all (·.oneCell') = true := by
  rw [Array.all_eq_true]
  intro i hi
  simp [kc]
  rfl
theorem info_key : (Try.prog.info? 23).map (·.size) = some 32 := by kernel_rfl
theorem info_kc (k : List UInt8) (h : k.length = 32) : (Try.prog.info? 23).map (·.size) = some (kc k).size := by rw [kc_size, h]; exact info_key
def pathK (k : List UInt8) : List UInt8 := Ni.nibsL ⟨k.toArray⟩

set_option maxHeartbeats 1000000 in
theorem path_any (k : List UInt8) (hk : k.length = 32) (w : World) :
    Calls Try.prog 8 #[.agg (kc k)] w (GotBs w (pathK k)) := by
  have h0 : IsBs (w.alloc (.cells (kc k) 23)) (some ⟨w.heap.size, 0, none⟩) k.length k.length k := IsBs.new w k (by unfold maxLen; omega) _ _ rfl
  rw [hk] at h0
  have hcv := conv_bs h0
  obtain ⟨s, hs⟩ : ∃ s, (⟨k.toArray⟩ : ByteArray) = s := ⟨_, rfl⟩
  have hsz : s.size = 32 := by rw [← hs]; show k.toArray.size = 32; simp [hk]
  have HP : Hid (pathK k = Ni.nibsL s) := Lib.hid (by unfold pathK; rw [hs])
  have HSp := Lib.hid (fun wx => Ni.spread_any s (by omega) wx)
  rw [hs] at hcv
  obtain ⟨C, hC⟩ : ∃ C, kc k = C := ⟨_, rfl⟩
  rw [hC] at hcv ⊢
  clear h0 hs hC hsz hk
  go_enter Try.func8, Try.ntmps8
  go_wp2_with fail
  refine (HSp.out _).mono ?_
  rintro e w1 ⟨a, n, cap, rfl, hx, hb⟩
  go_wp2
  go_ret
  exact ⟨a, n, cap, rfl, by rw [HP.out]; exact hx, ((Below.refl w.heap.size w).alloc (Nat.le_refl _) _).trans (hb.mono (by simp))⟩

theorem below_row {B : Nat} {w w1 : World} (h : Below B w w1) {g : Nat} (hg : B ≤ g) (cs : Array Value) : Below B w (w1.setRow g cs) :=
  h.trans ⟨rfl, rfl, rfl, by simp, fun k hk => setRow_other w1 g k cs (by omega)⟩
theorem res_key (tmps : Array Value) (w : World) (g : Nat) (cs : Array Value) (e : Int) (hp : tmps.getD 2 undef = .pointer (some ⟨g, 0, none⟩)) (he : tmps.getD 3 undef = .int .i64 e)
    (hg : w.heap[g]? = some (.cells cs 23 (0, 0))) (hs : cs.size = 32) : (results Try.f9 tmps).run Try.prog w = .ok (.tuple #[.agg cs, .int .i64 e]) w := by
  rw [results_cell_tmp (fn := Try.f9) (p := 2) (u := 3) (ty := 23) rfl, hp, he]
  have := run_loadVar_row (P := Try.prog) w g 23 23 cs (0, 0) _ hg Try.underlying23 rfl (by rw [hs]; exact info_key)
  simp [asAddr, this]

/-- the key of nothing -/
def zk : List UInt8 := List.replicate 32 0

/-- an operation whose run is known -/
theorem wpList_run {P : Program} {w : World} {ops : Array Oper} {rest : List Oper} {o : Oper} {a : Act} {Q : Exit → Act → World → Prop} (hgd : o.guard = none) (v : Value) (w' : World)
    (hr : (execOp a.eval o).run P w = .ok (.value v) w') (h : wpList P ops Q rest (a.put o.dst v) w') : wpList P ops Q (o :: rest) a w :=
  wpList_plain hgd fun K hK => by
    unfold Oper.wp
    rw [hr]
    exact hK _ _ h
theorem run_alloc_key (ev : Operand → Value) (o : Oper) (ho : o.op = .alloc 23) (w : World) :
    (execOp ev o).run Try.prog w = .ok (.value (.pointer (some ⟨w.heap.size, 0, none⟩))) (w.alloc (.cells (kc zk) 23)) := by
  unfold execOp
  rw [ho]
  kernel_rfl
theorem run_build_key (ev : Operand → Value) (o : Oper) (ho : o.op = .build 23 #[]) (w : World) :
    (execOp ev o).run Try.prog w = .ok (.value (.agg (kc zk))) w := by
  unfold execOp
  rw [ho]
  kernel_rfl
theorem zk_size : (kc zk).size = 32 := by rw [kc_size]; rfl

set_option maxHeartbeats 1000000 in
theorem key_bad1 (a : Option Addr) (n cap : Nat) (hn : n ≠ 64) (w : World) :
    Calls Try.prog 9 #[.slice a n cap] w fun e w' => e = .returned (.tuple #[.agg (kc zk), .int .i64 2]) ∧ Below w.heap.size w w' := by
  have hne : ((n : Int) != 64) = true := by simp; omega
  have HG : Hid ((w.alloc (.cells (kc zk) 23)).heap[w.heap.size]? = some (.cells (kc zk) 23 (0, 0))) := Lib.hid (heap_alloc_new _ _)
  go_enter Try.func9, Try.ntmps9
  go_wp2_with (first | (refine wpList_run rfl _ _ (run_alloc_key _ _ rfl _) ?_) | (refine wpList_run rfl _ _ (run_build_key _ _ rfl _) ?_) | (refine wpList_store_rowTo rfl 23 _ _ rfl rfl _ (kc zk) rfl rfl 23 (kc zk) HG.out (info_kc _ rfl) rfl (kc_one _) ?_))
  exact bodyPost_ret (res_key _ _ _ _ _ rfl rfl (setRow_heap _ _ _ _ _ _ HG.out) zk_size) rfl ⟨rfl, below_row ((Below.refl _ _).alloc (Nat.le_refl _) _) (Nat.le_refl _) _⟩

set_option maxHeartbeats 1000000 in
theorem key_bad2 (a : Option Addr) (cap : Nat) (l : List UInt8) (hr : rightB l = false) (w : World) (h : IsBs w a 64 cap l) :
    Calls Try.prog 9 #[.slice a 64 cap] w fun e w' => e = .returned (.tuple #[.agg (kc zk), .int .i64 2]) ∧ Below w.heap.size w w' := by
  have hR := right_any a 64 cap l (w.alloc (.cells (kc zk) 23)) (h.alloc _)
  rw [hr] at hR
  have HR := Lib.hid hR
  clear hR hr h
  have HG : Hid ((w.alloc (.cells (kc zk) 23)).heap[w.heap.size]? = some (.cells (kc zk) 23 (0, 0))) := Lib.hid (heap_alloc_new _ _)
  go_enter Try.func9, Try.ntmps9
  go_wp2_with (first | (refine wpList_run rfl _ _ (run_alloc_key _ _ rfl _) ?_))
  refine HR.out.mono ?_
  rintro e w1 ⟨rfl, rfl⟩
  go_wp2_with (first | (refine wpList_run rfl _ _ (run_build_key _ _ rfl _) ?_) | (refine wpList_store_rowTo rfl 23 _ _ rfl rfl _ (kc zk) rfl rfl 23 (kc zk) HG.out (info_kc _ rfl) rfl (kc_one _) ?_))
  exact bodyPost_ret (res_key _ _ _ _ _ rfl rfl (setRow_heap _ _ _ _ _ _ HG.out) zk_size) rfl ⟨rfl, below_row ((Below.refl _ _).alloc (Nat.le_refl _) _) (Nat.le_refl _) _⟩
end Ky
end Go.Proofs.Ytihgiflhjhoghaa
