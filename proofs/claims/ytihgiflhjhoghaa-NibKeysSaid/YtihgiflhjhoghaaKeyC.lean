/-
  The contract of the plain answer's Path.
-/
import Derived.Test.YtihgiflhjhoghaaKeyB
namespace Go.Proofs.Ytihgiflhjhoghaa
open Go.RowKit

namespace Ky
open Ni
theorem pathK_length (k : List UInt8) (hk : k.length = 32) : (pathK k).length = 64 := by
  unfold pathK
  rw [nibsL_length]
  show 2 * k.toArray.size = 64
  simp [hk]
/-- the nibbles so far, as cells -/
def pc (k : List UInt8) (j : Nat) : List Value := ((pathK k).take j).map fun x => Value.int .u8 x.toNat
theorem pc_snoc (k : List UInt8) (hk : k.length = 32) (j : Nat) (hj : j < 64) (V : Int) (hV : V = (nibAt ⟨k.toArray⟩ j : Nat)) : pc k (j + 1) = pc k j ++ [.int .u8 V] := by
  unfold pc
  rw [take_snoc_getD _ _ (by rw [pathK_length k hk]; exact hj), List.map_append, List.map_cons, List.map_nil]
  have : ((pathK k).getD j 0).toNat = nibAt ⟨k.toArray⟩ j := nibsL_getD _ _ (by show j < 2 * k.toArray.size; simp [hk]; omega)
  rw [this, hV]
theorem nib_even (k : List UInt8) (j : Nat) (h : j % 2 = 0) : nibAt ⟨k.toArray⟩ j = (k.getD (j / 2) 0).toNat / 16 := by unfold nibAt; rw [if_pos h]
theorem nib_odd (k : List UInt8) (j : Nat) (h : ¬ j % 2 = 0) : nibAt ⟨k.toArray⟩ j = (k.getD (j / 2) 0).toNat % 16 := by unfold nibAt; rw [if_neg h]

set_option maxHeartbeats 1000000 in
theorem rpath_any (k : List UInt8) (hk : k.length = 32) (w : World) :
    Calls Try.prog 10 #[.agg (kc k)] w (GotBs w (pathK k)) := by
  obtain ⟨i0, hi, hz0, hz1, hz2⟩ := info_parts Cc.info_u8
  have HI : Hid (_ ∧ _ ∧ _ ∧ _) := Lib.hid ⟨hi, hz0, hz1, hz2⟩
  have hcell : ∀ q, q < 32 → (w.alloc (.cells (kc k) 23)).cell? ⟨w.heap.size, q, none⟩ = some (.int .u8 (k.getD q 0).toNat) := fun q hq => by
    rw [World.cell?_alloc_mark]
    simp [kc, List.getD, hk, hq]
  have HC := Lib.hid hcell
  have HPS := Lib.hid (fun j hj V hV => pc_snoc k hk j hj V hV)
  have HPL := Lib.hid (pathK_length k hk)
  obtain ⟨C, hC⟩ : ∃ C, kc k = C := ⟨_, rfl⟩
  rw [hC] at HC ⊢
  clear hcell hi hz0 hz1 hz2 hC hk
  go_enter Try.func10, Try.ntmps10
  go_wp2
  go_loopw [3, 4] (fun v i wr => ∃ j : Nat, j ≤ 64 ∧ i = .int .i64 j ∧ Hid (wr.ownsRow (w.heap.size + 1) 5 1 v j (pc k j)) ∧ Below (w.heap.size + 1) (w.alloc (.cells C 23)) wr) (fun _ i _ => 64 - (intOf i).toNat)
  case atStart => exact ⟨0, Nat.zero_le _, rfl, Lib.hid (World.ownsRow_nil _ _ _ _), Below.refl _ _⟩
  case round =>
    obtain ⟨j, hj, rfl, HO, hB⟩ := hrel
    by_cases hlt : j < 64
    · have hc0 := HC.out (j / 2) (by omega)
      have hc : ∀ o : Obj, wr.cell? ⟨w.heap.size, j / 2, none⟩ = some (.int .u8 (k.getD (j / 2) 0).toNat) := fun _ => by
        rw [hB.cell (p := ⟨w.heap.size, j / 2, none⟩) (by simp)]; exact hc0
      have hc := hc (.cells #[] 0)
      have hx := UInt8.toNat_lt (k.getD (j / 2) 0)
      have hsz : w.heap.size + 1 ≤ wr.heap.size := by have := hB.size; simp at this; omega
      by_cases hp : j % 2 = 0
      · have HV := Lib.hid (nib_even k j hp)
        obtain ⟨x, hxe⟩ : ∃ x, (k.getD (j / 2) 0).toNat = x := ⟨_, rfl⟩
        rw [hxe] at hc hx HV
        have HS := Lib.hid (HPS.out j hlt ((x : Int) / 16 % 16) (by rw [HV.out]; omega))
        have hp2 : ((j : Int) % 2 == 0) = true := by simp; omega
        clear hc0 hxe hp
        go_wp2_with (at_builtin; refine wpList_append_own _ rfl _ _ 24 rfl (w.heap.size + 1) 5 i0 (.int .u8 0) 1 1 Try.underlying24 HI.out.1 HI.out.2.1 HI.out.2.2.1 HI.out.2.2.2 rfl (by decide) _ _ _ rfl (HO.out.alloc _) ⟨wr.heap.size, 0, none⟩ 1 1 [.int .u8 ((x : Int) / 16 % 16)] rfl rfl ?c1 ?c2 ?c3 ?c4 ?c5 ?_)
        case c1 => exact Bu.cell_one_new' _ _ _ _
        case c2 => intro u hu; simp at hu; subst hu; rfl
        case c3 => unfold maxLen; omega
        case c4 => omega
        case c5 => simp; omega
        intro v' w2 hown2 hgrow _
        have hlt' := HO.out.lt
        go_wp2
        go_roundw
        case rel => exact ⟨j + 1, by omega, by go_num, Lib.hid (by rw [HS.out]; exact hown2), (hB.alloc hsz _).grown hgrow (by simp; omega) (fun g hg => (hlt' g hg).1)⟩
        case measure => simp [intOf]; omega
      · have HV := Lib.hid (nib_odd k j hp)
        obtain ⟨x, hxe⟩ : ∃ x, (k.getD (j / 2) 0).toNat = x := ⟨_, rfl⟩
        rw [hxe] at hc hx HV
        have HS := Lib.hid (HPS.out j hlt ((x : Int) % 16) (by rw [HV.out]; omega))
        have hp2 : ((j : Int) % 2 == 0) = false := by simp; omega
        clear hc0 hxe hp
        go_wp2_with (at_builtin; refine wpList_append_own _ rfl _ _ 24 rfl (w.heap.size + 1) 5 i0 (.int .u8 0) 1 1 Try.underlying24 HI.out.1 HI.out.2.1 HI.out.2.2.1 HI.out.2.2.2 rfl (by decide) _ _ _ rfl (HO.out.alloc _) ⟨wr.heap.size, 0, none⟩ 1 1 [.int .u8 ((x : Int) % 16)] rfl rfl ?d1 ?d2 ?d3 ?d4 ?d5 ?_)
        case d1 => exact Bu.cell_one_new' _ _ _ _
        case d2 => intro u hu; simp at hu; subst hu; rfl
        case d3 => unfold maxLen; omega
        case d4 => omega
        case d5 => simp; omega
        intro v' w2 hown2 hgrow _
        have hlt' := HO.out.lt
        go_wp2
        go_roundw
        case rel => exact ⟨j + 1, by omega, by go_num, Lib.hid (by rw [HS.out]; exact hown2), (hB.alloc hsz _).grown hgrow (by simp; omega) (fun g hg => (hlt' g hg).1)⟩
        case measure => simp [intOf]; omega
    · obtain rfl : j = 64 := by omega
      have hO := HO.out
      have e : pc k 64 = (pathK k).map fun x => Value.int .u8 x.toNat := by
        unfold pc; rw [List.take_of_length_le (by rw [HPL.out]; exact Nat.le_refl _)]
      rw [e] at hO
      obtain ⟨a, cap, rfl, hb⟩ := IsBs.ofOwn hO
      have HB := Lib.hid hb
      have HBe : Hid (Below w.heap.size w wr) := Lib.hid (((Below.refl w.heap.size w).alloc (Nat.le_refl _) _).trans (hB.mono (by omega)))
      clear hO e hb
      go_wp2
      go_ret
      exact ⟨a, _, cap, rfl, HB.out, HBe.out⟩
end Ky
end Go.Proofs.Ytihgiflhjhoghaa
