/-
  Contracts of the plain answers' Of and Sum.
-/
import Derived.Test.YtgpnhdnncfpbcaaDoorShaC
namespace Go.Proofs.YtgpnhdnncfpbcaaDoor
open Go.RowKit

namespace Sh
theorem IsWs.new (w : World) (l : List Nat) (hl : l.length = 8) (t : TypeId) : IsWs (w.alloc (.cells (wc l) t)) (some ⟨w.heap.size, 0, none⟩) 8 8 l :=
  ⟨by omega, by unfold maxLen; omega, hl, fun e => (by cases e), fun j hj => ⟨w.heap.size, 0, rfl, by simp, by rw [Nat.zero_add]; exact wc_cell w l t j (by omega)⟩⟩
theorem byteAt_cut (t : ByteArray) (k q : Nat) (hq : q < 64) : byteAt (t.extract (64 * k) (64 * k + 64)) q = byteK t.data.toList k q := by
  unfold byteAt byteK
  have e : (t.extract (64 * k) (64 * k + 64)).data.toList = (t.data.toList.drop (64 * k)).take 64 := by
    simp only [ByteArray.data_extract, Array.toList_extract, List.extract_eq_take_drop]
    rw [show 64 * k + 64 - 64 * k = 64 by omega]
  rw [e, List.getD, List.getD, List.getElem?_take_of_lt hq, List.getElem?_drop]
theorem of_block (t : ByteArray) (k : Nat) (h : List Nat) : blockL (byteAt (t.extract (64 * k) (64 * k + 64))) h = blockL (byteK t.data.toList k) h :=
  blockL_congr (fun q hq => byteAt_cut t k q hq) h

set_option maxRecDepth 100000 in
set_option maxHeartbeats 4000000 in
theorem rof_any (l : List UInt8) (hl : l.length ≤ 900000) (w : World) :
    Calls Tryd.prog 9 #[.string ⟨l.toArray⟩] w fun e w' => e = .returned (.string ⟨(sumL l).toArray⟩) ∧ Below w.heap.size w w' := by
  have hlen := fillL_length l
  have hmod := fillL_mod l
  have hz : zerosN l.length < 64 := Nat.mod_lt _ (by omega)
  have HW0 := Lib.hid (IsWs.new w Sh.start rfl 37)
  have HFi := Lib.hid (fill_any l (by omega))
  obtain ⟨t, ht⟩ : ∃ t, (⟨(fillL l).toArray⟩ : ByteArray) = t := ⟨_, rfl⟩
  have htd : t.data.toList = fillL l := by rw [← ht]
  have hts : t.size = (fillL l).length := by rw [← ht, ba_size]
  rw [ht] at HFi
  have HS := sec (show outK (hashK (fillL l) ((fillL l).length / 64)) 32 = sumL l from rfl)
  rw [← htd] at HS
  rw [show t.data.toList.length = t.size by simp] at HS
  have hb : t.size ≤ 900100 := by omega
  rw [← hts] at hmod
  have HT := sec htd
  have HL := Lib.hid (fun k => hashK_length t.data.toList k)
  have HTl := Lib.hid (fun k => hashK_lt t.data.toList k)
  clear ht htd hts hlen hz hl
  obtain ⟨s, hs⟩ : ∃ s, (⟨l.toArray⟩ : ByteArray) = s := ⟨_, rfl⟩
  rw [hs] at HFi ⊢
  clear hs
  go_enter Tryd.func9, Tryd.ntmps9
  go_wp2_with (first | (refine wpList_run (o := ⟨some 10, _, _, _, _, _⟩) rfl (.slice (some ⟨w.heap.size, 0, none⟩) 8 8) (w.alloc (.cells (wc Sh.start) 37)) (by kernel_rfl) ?_))
  refine (HFi.out _).mono ?_
  rintro e w1 ⟨rfl, hb1⟩
  have HW1 := Lib.hid (HW0.out.below hb1)
  have HB1 := Lib.hid (((Below.refl w.heap.size w).alloc (Nat.le_refl _) (.cells (wc Sh.start) 37)).trans (hb1.mono (by simp)))
  clear hb1 HFi HW0
  go_wp2
  go_loopw [3, 5] (fun v i wr => ∃ (k : Nat) (a : Option Addr) (cap : Nat), 64 * k ≤ t.size ∧ i = .int .i64 (64 * k : Nat) ∧ v = .slice a 8 cap ∧ Hid (IsWs wr a 8 cap (hashK t.data.toList k)) ∧ Hid (Below w.heap.size w wr)) (fun _ i _ => t.size - (intOf i).toNat)
  case atStart => exact ⟨0, _, _, by omega, rfl, rfl, HW1, HB1⟩
  case round =>
    clear HW1 HB1
    obtain ⟨k, a, cap, hk, rfl, rfl, HW, HB⟩ := hrel
    by_cases hlt : 64 * k < t.size
    · have hk64 : 64 * k + 64 ≤ t.size := by omega
      have hBl := block_any a cap (hashK t.data.toList k) (t.extract (64 * k) (64 * k + 64)) (by simp; omega) wr HW.out (HTl.out k)
      rw [of_block t k] at hBl
      have HBl := Lib.hid hBl
      obtain ⟨p, hp⟩ : ∃ p, 64 * k = p := ⟨_, rfl⟩
      have HBl : Hid (Calls Tryd.prog 22 #[.slice a 8 cap, .string (t.extract p (p + 64))] wr (GotWs wr (blockL (byteK t.data.toList k) (hashK t.data.toList k)))) := Lib.hid (by rw [← hp]; exact HBl.out)
      rw [hp] at hk64 hlt hk ⊢
      have HP := Lib.hid hp
      clear hBl hp
      go_wp2_with fail
      refine HBl.out.mono ?_
      rintro e w2 ⟨a2, cap2, rfl, hw2, hb2⟩
      have HW2 := Lib.hid hw2
      have HB2 := Lib.hid (HB.out.trans (hb2.mono HB.out.size))
      clear hw2 hb2 HBl
      go_wp2
      go_roundw
      case rel => exact ⟨k + 1, a2, cap2, by have := HP.out; omega, by have := HP.out; go_num, rfl, HW2, HB2⟩
      case measure => have := HP.out; simp [intOf]; omega
    · have hke : k = t.size / 64 := by omega
      have HSk : Sec (outK (hashK t.data.toList k) 32 = sumL l) := sec (by rw [hke]; exact HS.out)
      have hbd := HTl.out k
      obtain ⟨M, hM⟩ : ∃ M, hashK t.data.toList k = M := ⟨_, rfl⟩
      rw [hM] at HW HSk hbd
      have HMb := Lib.hid (fun j => getD_lt hbd j)
      clear hbd hM hke HS HL HTl HT
      obtain ⟨b, off, rfl, hlb, hx0⟩ := HW.out.2.2.2.2 0 (by omega)
      have HC : Hid (∀ j, j < 8 → wr.cell? ⟨b, off + j, none⟩ = some (.int .u64 (M.getD j 0 : Nat))) := Lib.hid (fun j hj => by
        obtain ⟨b', off', e, _, hc⟩ := HW.out.2.2.2.2 j hj
        cases e
        exact hc)
      obtain ⟨wo, rfl⟩ : ∃ wo : World, wo = wr := ⟨_, rfl⟩
      have hlb' : Hid (b < wo.heap.size) := Lib.hid hlb
      clear hx0 hlb
      go_wp2
      clear hlt hk hmod hb
      go_loopw [6, 7, 8, 9] (fun o i _ _ wx => ∃ q : Nat, q ≤ 32 ∧ i = .int .i64 q ∧ o = .string ⟨(outK M q).toArray⟩ ∧ Hid (Below wo.heap.size wo wx)) (fun _ i _ _ _ => 32 - (intOf i).toNat)
      case atStart => exact ⟨0, by omega, rfl, rfl, Lib.hid (Below.refl _ _)⟩
      case round =>
        obtain ⟨q, hq, rfl, rfl, HBx⟩ := hrel
        by_cases hlt : q < 32
        · have hq4 : q / 4 < 8 := by omega
          have hc := (HBx.out.cell (p := ⟨b, off + q / 4, none⟩) hlb'.out).trans (HC.out (q / 4) hq4)
          have hxb := HMb.out (q / 4)
          have HSn := sec (outK_snoc M q)
          have HWb := sec (show wByte M q = M.getD (q / 4) 0 / 256 ^ (3 - q % 4) % 256 from rfl)
          obtain ⟨x, hx⟩ : ∃ x, M.getD (q / 4) 0 = x := ⟨_, rfl⟩
          rw [hx] at hc hxb HWb
          clear hx
          obtain ⟨r, hr⟩ : ∃ r, q % 4 = r := ⟨_, rfl⟩
          have hr4 : r < 4 := by omega
          have hqr : (q : Int) % 4 = r := by omega
          rw [hr] at HWb
          clear hr
          have hbs := HBx.out.size
          have hol : (⟨(outK M q).toArray⟩ : ByteArray).size ≤ 32 := by rw [ba_size, outK_length]; exact hq
          have HCat : Hid ((⟨(outK M q).toArray⟩ : ByteArray) ++ ⟨#[UInt8.ofNat (wByte M q)]⟩ = ⟨(outK M (q + 1)).toArray⟩) := Lib.hid (by rw [HSn.out]; exact ba_cat _ [_])
          obtain ⟨O, hO⟩ : ∃ O, (⟨(outK M q).toArray⟩ : ByteArray) = O := ⟨_, rfl⟩
          rw [hO] at hol HCat ⊢
          clear hO
          have HQR := Lib.hid hqr
          go_wp2
          clear hqr hc
          go_loop [8, 9] (fun v kk => ∃ d : Nat, r + d ≤ 3 ∧ kk = .int .i64 (r + d : Nat) ∧ v = .int .u64 (x / 256 ^ d : Nat)) (fun _ kk => 3 - (intOf kk).toNat)
          case atStart => exact ⟨0, by omega, by rw [HQR.out]; rfl, by simp⟩
          case round =>
            obtain ⟨d, hd, rfl, rfl⟩ := hrel
            have hD : Hid (x / 256 ^ (d + 1) = x / 256 ^ d / 256) := Lib.hid (by rw [Nat.pow_succ, Nat.div_div_eq_div_mul])
            have hyb : x / 256 ^ d < 4294967296 := Nat.lt_of_le_of_lt (Nat.div_le_self _ _) hxb
            obtain ⟨p, hp⟩ : ∃ p, r + d = p := ⟨_, rfl⟩
            rw [hp] at hd ⊢
            have HP := Lib.hid hp
            by_cases hl3 : p < 3
            · obtain ⟨y, hy⟩ : ∃ y, x / 256 ^ d = y := ⟨_, rfl⟩
              rw [hy] at hD hyb ⊢
              clear hy hp
              go_wp2
              go_round
              case rel => exact ⟨d + 1, by have := HP.out; omega, by have := HP.out; go_num, by rw [hD.out]; go_num⟩
              case measure => simp [intOf]; omega
            · have hd3 : 3 - r = d := by omega
              rw [hd3] at HWb
              obtain ⟨y, hy⟩ : ∃ y, x / 256 ^ d = y := ⟨_, rfl⟩
              rw [hy] at hyb HWb ⊢
              clear hy hp hd3 hD
              have hcv := conv_one ((y : Int) % 256) (y % 256) (by omega) (by omega) wr
              rw [← HWb.out] at hcv
              obtain ⟨C, hC⟩ : ∃ C, (⟨#[UInt8.ofNat (wByte M q)]⟩ : ByteArray) = C := ⟨_, rfl⟩
              have hCs : C.size ≤ 1 := by rw [← hC]; exact Nat.le_refl _
              rw [hC] at hcv HCat
              clear hC
              go_wp2
              go_roundw
              case rel => exact ⟨q + 1, by omega, by go_num, by rw [HCat.out], Lib.hid (HBx.out.alloc hbs _)⟩
              case measure => simp [intOf]; omega
        · obtain rfl : q = 32 := by omega
          have hB2 := HB.out.trans (HBx.out.mono HB.out.size)
          clear HBx
          go_wp2
          go_ret
          exact ⟨by rw [← HSk.out]; rfl, hB2⟩
end Sh
end Go.Proofs.YtgpnhdnncfpbcaaDoor
