/-
  The contract of nib.Key where there is a key, and of the plain answer's Path.
-/
import Derived.Test.YtihgiflhjhoghaaKeyA
namespace Go.Proofs.Ytihgiflhjhoghaa
open Go.RowKit

namespace Ky
open Ni
theorem run_load_key (w : World) (g : Nat) (l : List UInt8) (hl : l.length = 32) (hc : ∀ j, j < 32 → w.cell? ⟨g, j, none⟩ = some (.int .u8 (l.getD j 0).toNat)) :
    (loadVar 23 ⟨g, 0, none⟩).run Try.prog w = .ok (.agg (kc l)) w := by
  have hs : (kc l).size = 32 := by rw [kc_size, hl]
  have hll : (kc l).toList.length = 32 := by simpa using hs
  have hrun : (loadCells ⟨g, 0, none⟩ (kc l).toList.length).run Try.prog w = .ok (kc l).toList.toArray w :=
    run_loadCells_list (P := Try.prog) w ⟨g, 0, none⟩ (kc l).toList (fun j v hv => by
      have hadd : (⟨g, 0, none⟩ : Addr).add j = ⟨g, j, none⟩ := by unfold Addr.add; split <;> simp_all
      have hj : j < 32 := by
        have := (List.getElem?_eq_some_iff.1 hv).1
        omega
      rw [hadd, hc j hj, ← hv]
      simp [kc, List.getD, hl, hj])
  cases hq : Try.prog.info? 23 with
  | none => have := info_key; simp [hq] at this
  | some i =>
    have hsz : i.size = 32 := by have := info_key; simpa [hq] using this
    have hagg : (isAgg 23).run Try.prog w = .ok true w := by
      unfold isAgg
      rw [Sem.run_bind, run_underlying Try.underlying23 w]
      simp
    rw [hll] at hrun
    simp only [Array.toArray_toList] at hrun
    simp [loadVar, Sem.run_bind, hagg, sizeOf, typeInfo, hq, hsz, hrun]
theorem wpList_load_key {ops : Array Oper} {rest : List Oper} {o : Oper} {a : Act} {w : World} {Q : Exit → Act → World → Prop} (hgd : o.guard = none) (x : Operand) (ho : o.op = .load 23 x)
    (g : Nat) (hx : a.eval x = .pointer (some ⟨g, 0, none⟩)) (l : List UInt8) (hr : (loadVar 23 ⟨g, 0, none⟩).run Try.prog w = .ok (.agg (kc l)) w)
    (h : wpList Try.prog ops Q rest (a.put o.dst (.agg (kc l))) w) : wpList Try.prog ops Q (o :: rest) a w :=
  wpList_run hgd _ _ (by
    unfold execOp
    simp only [ho, hx, Instr.loadAt, Instr.sureAddr, Sem.run_bind, Sem.run_pure, Result.andThen_ok, hr]) h
theorem below_bytes {B : Nat} {w w1 : World} (h : Below B w w1) (hB : B ≤ w1.heap.size) (e : TypeId) (s : ByteArray) : Below B w (Lib.bytesWorld w1 e s) := by
  have h1 : (Lib.bytesWorld w1 e s).os = w1.os ∧ (Lib.bytesWorld w1 e s).tape = w1.tape ∧ (Lib.bytesWorld w1 e s).output = w1.output := by
    unfold Lib.bytesWorld World.freeze
    split <;> exact ⟨rfl, rfl, rfl⟩
  refine h.trans ⟨h1.1, h1.2.1, h1.2.2, by rw [Lib.bytesWorld_size]; omega, fun k hk => Lib.bytesWorld_at_old w1 e s k (by omega)⟩

/-- the key of a path -/
def keyL (l : List UInt8) : List UInt8 := pairsK l 32
theorem keyL_length (l : List UInt8) : (keyL l).length = 32 := pairsK_length l 32

set_option maxHeartbeats 1000000 in
theorem key_ok (a : Option Addr) (cap : Nat) (l : List UInt8) (hr : rightB l = true) (w : World) (h : IsBs w a 64 cap l) :
    Calls Try.prog 9 #[.slice a 64 cap] w fun e w' => e = .returned (.tuple #[.agg (kc (keyL l)), .int .i64 0]) ∧ Below w.heap.size w w' := by
  have hR := right_any a 64 cap l (w.alloc (.cells (kc zk) 23)) (h.alloc _)
  rw [hr] at hR
  have HR := Lib.hid hR
  have HP := Lib.hid (pairs_any a 64 cap l hr (by omega) (by omega) (w.alloc (.cells (kc zk) 23)) (h.alloc _))
  clear hR hr h
  have HG : Hid ((w.alloc (.cells (kc zk) 23)).heap[w.heap.size]? = some (.cells (kc zk) 23 (0, 0))) := Lib.hid (heap_alloc_new _ _)
  obtain ⟨s, hs⟩ : ∃ s, (⟨(pairsK l (64 / 2)).toArray⟩ : ByteArray) = s := ⟨_, rfl⟩
  have HS : Hid (s.size = 32 ∧ s.data.toList = keyL l) := Lib.hid (by
    rw [← hs]
    refine ⟨?_, rfl⟩
    show (pairsK l 32).toArray.size = 32
    simp [pairsK])
  rw [hs] at HP
  clear hs
  go_enter Try.func9, Try.ntmps9
  go_wp2_with (first | (refine wpList_run rfl _ _ (run_alloc_key _ _ rfl _) ?_))
  refine HR.out.mono ?_
  rintro e w1 ⟨rfl, rfl⟩
  go_wp2_with fail
  refine HP.out.mono ?_
  rintro e w2 ⟨rfl, hb2⟩
  have hsz2 : w.heap.size < w2.heap.size := by have := hb2.size; simp at this; omega
  have hcv := Lib.run_convert_string_bytes (P := Try.prog) w2 9 24 5 s Try.underlying9 Try.underlying24 Try.underlying5
  rw [HS.out.1] at hcv
  obtain ⟨c, hc⟩ : ∃ c, grownCap w2 32 0 5 = c := ⟨_, rfl⟩
  rw [hc] at hcv
  have HL := Lib.hid (run_load_key (Lib.bytesWorld w2 5 s) w2.heap.size (keyL l) (keyL_length l) (fun j hj => by
    rw [Lib.bytesWorld_cell w2 5 s j (by rw [HS.out.1]; exact hj), HS.out.2]))
  have HG2 : Hid ((Lib.bytesWorld w2 5 s).heap[w.heap.size]? = some (.cells (kc zk) 23 (0, 0))) := Lib.hid (by
    rw [Lib.bytesWorld_at_old w2 5 s _ hsz2, hb2.block _ (by simp)]
    exact HG.out)
  have HB : Hid (Below w.heap.size w (Lib.bytesWorld w2 5 s)) := Lib.hid (below_bytes (((Below.refl w.heap.size w).alloc (Nat.le_refl _) _).trans (hb2.mono (by simp))) (by omega) _ _)
  obtain ⟨W, hW⟩ : ∃ W, Lib.bytesWorld w2 5 s = W := ⟨_, rfl⟩
  rw [hW] at hcv HL HG2 HB
  have hat := run_arrayAt (P := Try.prog) W 23 _ 32 (some ⟨w2.heap.size, 0, none⟩) 32 c Try.underlying23 (Nat.le_refl _)
  clear hc hW hb2 hsz2 HP HR
  go_wp2_with (first | (refine wpList_load_key rfl _ rfl w2.heap.size rfl (keyL l) HL.out ?_) | (refine wpList_store_rowTo rfl 23 _ _ rfl rfl _ (kc (keyL l)) rfl rfl 23 (kc zk) HG2.out (info_kc _ (keyL_length l)) (by rw [zk_size, kc_size, keyL_length]) (kc_one _) ?_))
  exact bodyPost_ret (res_key _ _ _ _ _ rfl rfl (setRow_heap _ _ _ _ _ _ HG2.out) (by rw [kc_size, keyL_length])) rfl ⟨rfl, below_row HB.out (Nat.le_refl _) _⟩
end Ky
end Go.Proofs.Ytihgiflhjhoghaa
