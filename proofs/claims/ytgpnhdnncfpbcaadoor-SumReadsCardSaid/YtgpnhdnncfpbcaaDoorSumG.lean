/-
  Contracts of sum.Hex, strings.IndexByte, sum.Read.
-/
import Derived.Test.YtgpnhdnncfpbcaaDoorSumF
import Derived.Test.YtgpnhdnncfpbcaaDoorBuB
import Derived.Lib.Bytealg
namespace Go.Proofs.YtgpnhdnncfpbcaaDoor
open Go.RowKit

namespace Sm
open Sh
theorem run_index_kc (k : List UInt8) (j : Nat) (hj : j < 32) (hk : k.length = 32) (w : World) :
    (Instr.index 27 (.agg (kc k)) (.int .i64 j)).run Tryd.prog w = .ok (.int .u8 (k.getD j 0).toNat) w := by
  have hs : (sizeOf 5).run Tryd.prog w = .ok 1 w := by kernel_rfl
  have hp : (part 5 (kc k) j).run Tryd.prog w = .ok (.int .u8 (k.getD j 0).toNat) w := by
    have hc : (kc k)[j]? = some (.int .u8 (k.getD j 0).toNat) := by simp [kc, List.getD, hk, hj]
    have ha : (isAgg 5).run Tryd.prog w = .ok false w := by kernel_rfl
    simp [part, Sem.run_bind, ha, hc]
  have hj2 : 0 ≤ (j : Int) ∧ (j : Int) < 32 := by omega
  have hj3 : (if (0 : Int) ≤ j ∧ (j : Int) < 32 then part 5 (kc k) j else boundsPanic .i64 j 32 .index) = part 5 (kc k) j := if_pos hj2
  simp [Instr.index, asIntOf, run_underlying Tryd.underlying27, hs]
  rw [if_pos hj]
  simpa using hp

theorem hexD_at : ∀ x : Fin 16, (⟨#[48, 49, 50, 51, 52, 53, 54, 55, 56, 57, 97, 98, 99, 100, 101, 102]⟩ : ByteArray)[(x : Nat)]'(by have := x.2; show (x : Nat) < 16; omega) = hexD x := by decide +kernel
/-- what holds at the head of a round of Hex: k bytes are told -/
def Hx (w : World) (l : List UInt8) (k : Nat) (wr : World) : Prop :=
  Bu.Is w.heap.size (w.heap.size + 1) (Lib.byteCells (hexK l k)) wr ∧ Below w.heap.size w wr

set_option maxHeartbeats 2000000 in
theorem hex_any (k : List UInt8) (hk : k.length = 32) (w : World) :
    Calls Tryd.prog 12 #[.agg (kc k)] w fun e w' => e = .returned (.string ⟨(hexK k 32).toArray⟩) ∧ Below w.heap.size w w' := by
  have hg : (w.alloc (.cells (kc k) 27)).heap[w.heap.size]? = some (.cells (kc k) 27 (0, 0)) := heap_alloc_new _ _
  have HG : Hid (((w.alloc (.cells (kc k) 27)).alloc (.cells #[.pointer none, .slice none 0 0] 49)).heap[w.heap.size]? = some (.cells (kc k) 27 (0, 0))) := Lib.hid ((Lib.alloc_old _ _ _ (by simp)).trans hg)
  have HH0 : Hid (Hx w k 0 ((w.alloc (.cells (kc k) 27)).alloc (.cells #[.pointer none, .slice none 0 0] 49))) := Lib.hid ⟨Bu.fresh (by omega) (by have := heap_alloc_new (w.alloc (.cells (kc k) 27)) (.cells #[.pointer none, .slice none 0 0] 49); simpa using this), ((Below.refl _ _).alloc (Nat.le_refl _) _).alloc (by simp) _⟩
  have HI := Lib.hid (fun j hj wz => run_index_kc k j hj hk wz)
  have HS := Lib.hid (fun (j : Nat) (hj : j < 32) => hexK_snoc k j (by omega))
  have HL := Lib.hid (fun (j : Nat) (hj : j ≤ 32) => hexK_length k j (by omega))
  have HA : (Tryd.prog.info? 27).map (·.size) = some (kc k).size := info_kc k hk
  have HA := Lib.hid HA
  obtain ⟨A, hA⟩ : ∃ A, kc k = A := ⟨_, rfl⟩
  rw [hA] at HG HH0 HI HA ⊢
  clear hA hg
  go_enter Tryd.func12, Tryd.ntmps12
  go_wp2_with (first | (refine wpList_load_row rfl _ _ rfl w.heap.size rfl 27 A (0, 0) _ HG.out Tryd.underlying27 rfl HA.out ?_))
  go_loopw [7] (fun i wr => ∃ q : Nat, q ≤ 32 ∧ i = .int .i64 q ∧ Hid (Hx w k q wr)) (fun i _ => 32 - (intOf i).toNat)
  case atStart => exact ⟨0, by omega, rfl, HH0⟩
  case round =>
    clear HH0 HG
    obtain ⟨q, hq, rfl, HH⟩ := hrel
    by_cases hlt : q < 32
    · have hix := HI.out q hlt
      have hx256 : (k.getD q 0).toNat < 256 := UInt8.toNat_lt _
      have HSn := sec (HS.out q hlt)
      have hlen := HL.out q (by omega)
      obtain ⟨x, hx⟩ : ∃ x, (k.getD q 0).toNat = x := ⟨_, rfl⟩
      rw [hx] at hix hx256 HSn
      clear hx
      have m15 : bits .and .u8 (x : Int) 15 = ((x % 16 : Nat) : Int) := by
        rw [show (15 : Int) = ((15 : Nat) : Int) from rfl, u8_and_nat x 15 hx256 (by omega), nat_mask4]
      have HM := Lib.hid m15
      have HB := Lib.hid HH.out.2
      have hBi := HH.out.1
      clear HH m15
      go_wp2_with fail
      refine (Bu.writeByte _ hBi (by rw [Lib.byteCells_length, hlen]; omega) HB.out.size).mono ?_
      rintro e w1 ⟨rfl, h1, hb1, _⟩
      have hB1 := HB.out.trans hb1
      have m15 := HM.out
      clear hBi hix hb1
      go_wp2_with fail
      refine (Bu.writeByte _ h1 (by rw [List.length_append, Lib.byteCells_length, hlen]; simp; omega) hB1.size).mono ?_
      rintro e w2 ⟨rfl, h2, hb2, _⟩
      have hB2 := hB1.trans hb2
      go_wp2
      go_roundw
      case rel =>
        refine ⟨q + 1, by omega, by go_num, Lib.hid ⟨?_, hB2⟩⟩
        rw [HSn.out, Lib.byteCells_append]
        rw [List.append_assoc] at h2
        have e1 := hexD_at ⟨x / 16, by omega⟩
        have e2 := hexD_at ⟨x % 16, by omega⟩
        simp only at e1 e2
        rw [e1, e2] at h2
        exact h2
      case measure => simp [intOf]; omega
    · obtain rfl : q = 32 := by omega
      have hb := HH.out.2
      go_wp2_with (go_at_call 25; refine (Bu.text HH.out.1 hb.size).mono ?_)
      rintro e w2 ⟨rfl, hb2⟩
      go_wp2
      go_ret
      exact ⟨rfl, hb.trans hb2⟩
end Sm
end Go.Proofs.YtgpnhdnncfpbcaaDoor
