/-
  Contracts of the plain answers' Fill and Hex.
-/
import Derived.Test.YtgpnhdnncfpbcaaDoorShaA
import Derived.Test.YtgpnhdnncfpbcaaDoorShaRd
import Derived.Deep.QuietTactic
import Derived.BigQuiet
namespace Go.Proofs.YtgpnhdnncfpbcaaDoor
open Go.RowKit

namespace Sh
/-- a new slice of one byte, as a text -/
theorem conv_one (v : Int) (x : Nat) (hx : x < 256) (hv : v = x) (w : World) :
    Sem.run Tryd.prog (convert 38 9 (Value.slice (some ⟨w.heap.size, 0, none⟩) 1 1)) (w.alloc (.cells #[.int .u8 v] 5)) = .ok (.string ⟨#[UInt8.ofNat x]⟩) (w.alloc (.cells #[.int .u8 v] 5)) := by
  subst hv
  have h := run_convert_bytes_back (P := Tryd.prog) (w.alloc (.cells #[.int .u8 x] 5)) 38 9 5 ⟨w.heap.size, 0, none⟩ 1 [UInt8.ofNat x] Tryd.underlying38 Tryd.underlying5 Tryd.underlying9
    (fun j hj => by
      obtain rfl : j = 0 := by simpa using hj
      have e : (UInt8.ofNat x).toNat = x := by simp; omega
      simp [Addr.add, e])
  exact h
theorem ba_cat (x y : List UInt8) : (⟨x.toArray⟩ : ByteArray) ++ ⟨y.toArray⟩ = ⟨(x ++ y).toArray⟩ := by
  have h : ((⟨x.toArray⟩ : ByteArray) ++ ⟨y.toArray⟩).data = (x ++ y).toArray := by
    rw [ByteArray.data_append]; simp
  cases e : ((⟨x.toArray⟩ : ByteArray) ++ ⟨y.toArray⟩) with
  | mk d => rw [e] at h; simp only at h; rw [h]
theorem ba_size (x : List UInt8) : (⟨x.toArray⟩ : ByteArray).size = x.length := by show x.toArray.size = _; simp

set_option maxHeartbeats 1000000 in
theorem fill_any (l : List UInt8) (hl : l.length ≤ 1000000) (w : World) :
    Calls Tryd.prog 21 #[.string ⟨l.toArray⟩] w fun e w' => e = .returned (.string ⟨(fillL l).toArray⟩) ∧ Below w.heap.size w w' := by
  obtain ⟨s, hs⟩ : ∃ s, (⟨l.toArray⟩ : ByteArray) = s := ⟨_, rfl⟩
  have hsz : s.size = l.length := by rw [← hs, ba_size]
  have HST : Hid (s ++ ⟨#[128]⟩ = ⟨(fillK l 0).toArray⟩) := Lib.hid (by rw [← hs]; exact (ba_cat l [128]).trans (by simp [fillK]))
  have hle : s.size ≤ 1000000 := by omega
  rw [hs]
  have HZ := Lib.hid hsz
  clear hs hsz
  go_enter Tryd.func21, Tryd.ntmps21
  go_wp2
  go_loop [3] (fun t => ∃ k : Nat, Hid (k ≤ zerosN l.length) ∧ t = .string ⟨(fillK l k).toArray⟩) (fun t => match t with | .string b => 1100000 - b.size | _ => 0)
  case atStart => exact ⟨0, Lib.hid (Nat.zero_le _), by rw [HST.out]⟩
  case round =>
    obtain ⟨k, HK, rfl⟩ := hrel
    have hz : zerosN l.length < 64 := Nat.mod_lt _ (by omega)
    have hk := HK.out
    have hsz : (⟨(fillK l k).toArray⟩ : ByteArray).size = l.length + 1 + k := by rw [ba_size, fillK_length]
    have HN : Hid ((⟨(fillK l k).toArray⟩ : ByteArray) ++ ⟨#[0]⟩ = ⟨(fillK l (k + 1)).toArray⟩) := Lib.hid (by rw [fillK_snoc]; exact ba_cat _ [0])
    have HZ2 : Hid ((⟨(fillK l (k + 1)).toArray⟩ : ByteArray).size = l.length + 1 + (k + 1)) := Lib.hid (by rw [ba_size, fillK_length])
    by_cases hlt : k < zerosN l.length
    · have hne : (((l.length + 1 + k : Nat) : Int) % 64 != 56) = true := by
        unfold zerosN at hlt; simp; omega
      obtain ⟨T, hT⟩ : ∃ T, (⟨(fillK l k).toArray⟩ : ByteArray) = T := ⟨_, rfl⟩
      obtain ⟨L, hL⟩ : ∃ L, l.length + 1 + k = L := ⟨_, rfl⟩
      rw [hT] at hsz HN ⊢
      rw [hL] at hsz hne
      have hLb : L ≤ 1000100 := by have := HZ.out; omega
      have HL := Lib.hid hL
      have HLt := Lib.hid hlt
      clear hT hL hk hlt hz
      go_wp2
      go_round
      case rel => exact ⟨k + 1, Lib.hid (by have := HLt.out; omega), by rw [HN.out]⟩
      case measure =>
        show 1100000 - (T ++ ⟨#[0]⟩ : ByteArray).size < 1100000 - T.size
        rw [HN.out, HZ2.out, hsz]
        have := HL.out
        omega
    · have hkz : k = zerosN l.length := by omega
      have hne : (((l.length + 1 + k : Nat) : Int) % 64 != 56) = false := by
        rw [hkz]; unfold zerosN; simp; omega
      obtain ⟨T, hT⟩ : ∃ T, (⟨(fillK l k).toArray⟩ : ByteArray) = T := ⟨_, rfl⟩
      obtain ⟨L, hL⟩ : ∃ L, l.length + 1 + k = L := ⟨_, rfl⟩
      have HT : Hid (T ++ ⟨(beK (8 * l.length) 8).toArray⟩ = ⟨(fillL l).toArray⟩) := Lib.hid (by
        rw [← hT, ba_cat, hkz]; rfl)
      rw [hT] at hsz ⊢
      rw [hL] at hsz hne
      have hLb : L ≤ 1000100 := by have := HZ.out; omega
      clear hT hL hk hlt hz HN HZ2 hkz HK HST
      go_wp2
      go_loopw [4, 5, 6] (fun n d i wr => ∃ j : Nat, j ≤ 8 ∧ i = .int .i64 j ∧ n = .int .u64 (8 * s.size / 256 ^ j : Nat) ∧ d = .string ⟨(beK (8 * s.size) j).toArray⟩ ∧ Below w.heap.size w wr) (fun _ _ i _ => 8 - (intOf i).toNat)
      case atStart => exact ⟨0, Nat.zero_le _, rfl, by simp, rfl, Below.refl _ _⟩
      case round =>
        obtain ⟨j, hj, rfl, rfl, rfl, hB⟩ := hrel
        obtain ⟨m, hm⟩ : ∃ m, 8 * s.size / 256 ^ j = m := ⟨_, rfl⟩
        have hm64 : m < 18446744073709551616 := by
          rw [← hm]; exact Nat.lt_of_le_of_lt (Nat.div_le_self _ _) (by omega)
        have HD : Hid (8 * s.size / 256 ^ (j + 1) = m / 256) := Lib.hid (by rw [Nat.pow_succ, ← Nat.div_div_eq_div_mul, hm])
        have HS : Hid ((⟨#[UInt8.ofNat (m % 256)]⟩ : ByteArray) ++ ⟨(beK (8 * s.size) j).toArray⟩ = ⟨(beK (8 * s.size) (j + 1)).toArray⟩) := Lib.hid (by
          rw [beK_snoc, hm]; exact ba_cat [_] _)
        have hEs : (⟨(beK (8 * s.size) j).toArray⟩ : ByteArray).size ≤ 8 := by rw [ba_size, beK_length]; exact hj
        obtain ⟨E, hE⟩ : ∃ E, (⟨(beK (8 * s.size) j).toArray⟩ : ByteArray) = E := ⟨_, rfl⟩
        obtain ⟨C, hC⟩ : ∃ C, (⟨#[UInt8.ofNat (m % 256)]⟩ : ByteArray) = C := ⟨_, rfl⟩
        have hCs : C.size ≤ 1 := by rw [← hC]; exact Nat.le_refl _
        have hcv := conv_one ((m : Int) % 256) (m % 256) (by omega) (by omega) wr
        rw [hC] at hcv HS
        rw [hE] at HS hEs
        rw [hm, hE]
        have HE := Lib.hid hE
        clear hm hE hC
        by_cases hlt : j < 8
        · go_wp2
          go_roundw
          case rel => exact ⟨j + 1, by omega, by go_num, by rw [HD.out]; go_num, by rw [HS.out], hB.alloc hB.size _⟩
          case measure => simp [intOf]; omega
        · obtain rfl : j = 8 := by omega
          have HF : Hid (T ++ E = ⟨(fillL l).toArray⟩) := Lib.hid (by rw [← HT.out, ← HE.out, HZ.out])
          clear hcv
          go_wp2
          go_ret
          exact ⟨by rw [← HF.out]; rfl, hB⟩

/-- two digits a byte -/
def hexD (x : Nat) : UInt8 := UInt8.ofNat (if x < 10 then 48 + x else 87 + x)
def hexK (l : List UInt8) (k : Nat) : List UInt8 := (l.take k).flatMap fun b => [hexD (b.toNat / 16), hexD (b.toNat % 16)]
theorem hexK_snoc (l : List UInt8) (k : Nat) (h : k < l.length) : hexK l (k + 1) = hexK l k ++ [hexD ((l.getD k 0).toNat / 16), hexD ((l.getD k 0).toNat % 16)] := by
  have e : l.getD k 0 = l[k] := by rw [List.getD, List.getElem?_eq_getElem h]; rfl
  have t : l.take (k + 1) = l.take k ++ [l[k]] := List.take_succ_eq_append_getElem h
  unfold hexK
  rw [t, e, List.flatMap_append, List.flatMap_cons, List.flatMap_nil, List.append_nil]
theorem hexK_length (l : List UInt8) (k : Nat) (h : k ≤ l.length) : (hexK l k).length = 2 * k := by
  induction k with
  | zero => rfl
  | succ k ih => rw [hexK_snoc l k (by omega), List.length_append, ih (by omega)]; simp; omega
theorem dig_cut : ∀ x : Fin 16, (⟨#[48, 49, 50, 51, 52, 53, 54, 55, 56, 57, 97, 98, 99, 100, 101, 102]⟩ : ByteArray).extract (x : Nat) ((x : Nat) + 1) = ⟨#[hexD x]⟩ := by decide +kernel

set_option maxHeartbeats 1000000 in
theorem hex_any (s : ByteArray) (hs : s.size ≤ 1000000) (w : World) :
    Calls Tryd.prog 15 #[.string s] w fun e w' => e = .returned (.string ⟨(hexK s.data.toList s.size).toArray⟩) ∧ ∃ q, w' = w.drewN q := by
  go_enter Tryd.func15, Tryd.ntmps15
  go_wp2
  go_loopw [4, 5] (fun d i wr => ∃ k : Nat, k ≤ s.size ∧ i = .int .i64 k ∧ d = .string ⟨(hexK s.data.toList k).toArray⟩ ∧ ∃ q, wr = w.drewN q) (fun _ i _ => s.size - (intOf i).toNat)
  case atStart => exact ⟨0, Nat.zero_le _, rfl, rfl, 0, rfl⟩
  case round =>
    obtain ⟨k, hk, rfl, rfl, q, rfl⟩ := hrel
    by_cases hlt : k < s.size
    · have hl : k < s.data.toList.length := by simpa using hlt
      have hx256 : s[k].toNat < 256 := UInt8.toNat_lt _
      have hsn := hexK_snoc s.data.toList k hl
      have hgd : s.data.toList.getD k 0 = s[k] := by rw [List.getD, List.getElem?_eq_getElem hl]; rfl
      rw [hgd] at hsn
      have hd1 := dig_cut ⟨s[k].toNat / 16, by omega⟩
      have hd2 := dig_cut ⟨s[k].toNat % 16, Nat.mod_lt _ (by omega)⟩
      have hEs : (⟨(hexK s.data.toList k).toArray⟩ : ByteArray).size ≤ 2000000 := by rw [ba_size, hexK_length _ _ (by omega)]; omega
      obtain ⟨E, hE⟩ : ∃ E, (⟨(hexK s.data.toList k).toArray⟩ : ByteArray) = E := ⟨_, rfl⟩
      obtain ⟨C, hC⟩ : ∃ C, (⟨#[hexD (s[k].toNat / 16)]⟩ : ByteArray) = C := ⟨_, rfl⟩
      obtain ⟨D, hD⟩ : ∃ D, (⟨#[hexD (s[k].toNat % 16)]⟩ : ByteArray) = D := ⟨_, rfl⟩
      have HS : Hid (E ++ C ++ D = ⟨(hexK s.data.toList (k + 1)).toArray⟩) := Lib.hid (by
        rw [← hE, ← hC, ← hD, hsn]
        rw [show (⟨#[hexD (s[k].toNat / 16)]⟩ : ByteArray) = ⟨[hexD (s[k].toNat / 16)].toArray⟩ from rfl, show (⟨#[hexD (s[k].toNat % 16)]⟩ : ByteArray) = ⟨[hexD (s[k].toNat % 16)].toArray⟩ from rfl, ba_cat, ba_cat]
        simp)
      have hCs : C.size ≤ 1 := by rw [← hC]; exact Nat.le_refl _
      have hDs : D.size ≤ 1 := by rw [← hD]; exact Nat.le_refl _
      have hECs : (E ++ C).size ≤ 2000001 := by rw [hE] at hEs; simp; omega
      simp only at hd1 hd2
      rw [hC] at hd1
      rw [hD] at hd2
      rw [hE] at hEs ⊢
      clear hE hC hD hsn hgd
      go_wp2_with fail
      go_quiet (fail)
      go_wp2
      go_roundw
      case rel => exact ⟨k + 1, by omega, by go_num, by rw [HS.out], (by first | exact ⟨_, rfl⟩ | exact ⟨_, World.drewN_drewN ..⟩)⟩
      case measure => simp [intOf]; omega
    · obtain rfl : k = s.size := by omega
      go_wp2
      go_ret
      exact ⟨rfl, q, rfl⟩
end Sh
end Go.Proofs.YtgpnhdnncfpbcaaDoor
