/-
  Contracts of the plain answers' Right and Pack.
-/
import Derived.Test.YtihgiflhjhoghaaNibD
namespace Go.Proofs.Ytihgiflhjhoghaa
open Go.RowKit

namespace Ni
set_option maxHeartbeats 400000 in
theorem rright_any (a : Option Addr) (n cap : Nat) (l : List UInt8) (w : World) (h : IsBs w a n cap l) :
    Calls Try.prog 12 #[.slice a n cap] w fun e w' => e = .returned (.bool (rightB l)) ∧ w = w' := by
  have hm := h.2.1
  have hnc := h.1
  unfold maxLen at hm
  have H := Lib.hid h
  clear h
  go_enter Try.func12, Try.ntmps12
  go_wp2
  go_loop [3] (fun i => ∃ k : Nat, k ≤ n ∧ i = .int .i64 k ∧ Hid (rightB (l.take k) = true)) (fun i => n - (intOf i).toNat)
  case atStart => exact ⟨0, Nat.zero_le _, rfl, Lib.hid rfl⟩
  case round =>
    obtain ⟨k, hk, rfl, HR⟩ := hrel
    by_cases hlt : k < n
    · obtain ⟨b, off, rfl, hb, hc⟩ := H.out.at' k hlt
      have hl : k < l.length := by rw [H.out.len]; exact hlt
      have HT := Lib.hid (rightB_take l k hl)
      obtain ⟨x, hx⟩ : ∃ x, (l.getD k 0).toNat = x := ⟨_, rfl⟩
      rw [hx] at hc HT
      by_cases h15 : 15 < x
      · have HN := Lib.hid (rightB_no l k hl (by omega))
        clear hx hl
        go_wp2
        go_ret
        exact ⟨by rw [HN.out]; rfl, rfl⟩
      · clear hx hl
        go_wp2
        go_round
        case rel => exact ⟨k + 1, by omega, by go_num, Lib.hid (by rw [HT.out, HR.out]; simp; omega)⟩
        case measure => simp [intOf]; omega
    · obtain rfl : k = n := by omega
      have HE : Hid (rightB l = true) := Lib.hid (by
        have := HR.out
        rwa [List.take_of_length_le (by rw [H.out.len]; exact Nat.le_refl _)] at this)
      go_wp2
      go_ret
      exact ⟨by rw [HE.out]; rfl, rfl⟩

/-- the first k + 1 bytes of a hex-prefix, as the plain answer lays them -/
def headN (l : List UInt8) (leaf : Bool) : Nat := 16 * markN l.length leaf + if l.length % 2 = 1 then (l.getD 0 0).toNat else 0
def rpackK (l : List UInt8) (leaf : Bool) (k : Nat) : List UInt8 := UInt8.ofNat (headN l leaf) :: (List.range k).map fun j => UInt8.ofNat (16 * (l.getD (l.length % 2 + 2 * j) 0).toNat + (l.getD (l.length % 2 + (2 * j + 1)) 0).toNat)
theorem rpackK_snoc (l : List UInt8) (leaf : Bool) (k : Nat) : rpackK l leaf (k + 1) = rpackK l leaf k ++ [UInt8.ofNat (16 * (l.getD (l.length % 2 + 2 * k) 0).toNat + (l.getD (l.length % 2 + (2 * k + 1)) 0).toNat)] := by
  simp [rpackK, List.range_succ]
theorem full_0 (l : List UInt8) (leaf : Bool) : ((fullL l leaf).getD 0 0).toNat = markN l.length leaf := by
  have : markN l.length leaf ≤ 3 := by unfold markN; cases leaf <;> simp <;> omega
  simp [fullL]; omega
theorem full_1 (l : List UInt8) (leaf : Bool) : ((fullL l leaf).getD 1 0).toNat = if l.length % 2 = 1 then (l.getD 0 0).toNat else 0 := by
  unfold fullL
  by_cases h : l.length % 2 = 1
  · cases l with
    | nil => simp at h
    | cons x r =>
      have h' : (r.length + 1) % 2 = 1 := by simpa using h
      simp [h']
  · simp [h]
theorem full_2 (l : List UInt8) (leaf : Bool) (q : Nat) : (fullL l leaf).getD (2 + q) 0 = l.getD (l.length % 2 + q) 0 := by
  unfold fullL
  by_cases h : l.length % 2 = 1
  · cases l with
    | nil => simp at h
    | cons x r =>
      rw [if_pos h, h]
      have e : (2 + q) = q + 1 + 1 := by omega
      rw [e, show 1 + q = q + 1 by omega]
      simp [List.getD]
  · have h0 : l.length % 2 = 0 := by omega
    rw [if_neg h, h0]
    have e : (2 + q) = q + 1 + 1 := by omega
    rw [e]
    simp [List.getD]
/-- both lay the same -/
theorem packL_eq (l : List UInt8) (leaf : Bool) : packL l leaf = rpackK l leaf (l.length / 2) := by
  unfold packL pairsK rpackK headN
  rw [List.range_succ_eq_map, List.map_cons, List.map_map]
  have e0 := full_0 l leaf
  have e1 := full_1 l leaf
  congr 1
  · simp only [Nat.mul_zero, Nat.zero_add]
    rw [e0, e1]
  · apply List.map_congr_left
    intro j _
    have f0 := full_2 l leaf (2 * j)
    have f1 := full_2 l leaf (2 * j + 1)
    simp only [Function.comp]
    rw [show 2 * (j.succ) = 2 + 2 * j by omega, show 2 + 2 * j + 1 = 2 + (2 * j + 1) by omega, f0, f1]

/-- a new slice of one byte, as a text -/
theorem conv_one (v : Int) (x : Nat) (hx : x < 256) (hv : v = x) (w : World) :
    Sem.run Try.prog (convert 24 9 (Value.slice (some ⟨w.heap.size, 0, none⟩) 1 1)) (w.alloc (.cells #[.int .u8 v] 5)) = .ok (.string ⟨#[UInt8.ofNat x]⟩) (w.alloc (.cells #[.int .u8 v] 5)) := by
  subst hv
  have h := run_convert_bytes_back (P := Try.prog) (w.alloc (.cells #[.int .u8 x] 5)) 24 9 5 ⟨w.heap.size, 0, none⟩ 1 [UInt8.ofNat x] Try.underlying24 Try.underlying5 Try.underlying9
    (fun j hj => by
      obtain rfl : j = 0 := by simpa using hj
      have e : (UInt8.ofNat x).toNat = x := by simp; omega
      simp [Addr.add, e])
  exact h

theorem ba_snoc (l : List UInt8) (x : UInt8) : (⟨l.toArray⟩ : ByteArray) ++ ⟨#[x]⟩ = ⟨(l ++ [x]).toArray⟩ := by
  have h : ((⟨l.toArray⟩ : ByteArray) ++ ⟨#[x]⟩).data = (l ++ [x]).toArray := by
    rw [ByteArray.data_append]; simp
  cases e : ((⟨l.toArray⟩ : ByteArray) ++ ⟨#[x]⟩) with
  | mk d => rw [e] at h; simp only at h; rw [h]

set_option maxHeartbeats 2000000 in
theorem rpack_any (a : Option Addr) (n cap : Nat) (l : List UInt8) (leaf : Bool) (hr : rightB l = true) (hn : n ≤ 64) (w : World) (h : IsBs w a n cap l) :
    Calls Try.prog 15 #[.slice a n cap, .bool leaf] w fun e w' => e = .returned (.string ⟨(packL l leaf).toArray⟩) ∧ Below w.heap.size w w' := by
  rw [packL_eq]
  have H := Lib.hid h
  have HL := Lib.hid h.len
  have HR := Lib.hid (rightB_getD l hr)
  have hmk : headN l leaf = 16 * (l.length % 2) + 32 * (if leaf then 1 else 0) + if l.length % 2 = 1 then (l.getD 0 0).toNat else 0 := by
    unfold headN markN; cases leaf <;> simp <;> omega
  have hnc := h.1
  have hcm := h.2.1
  unfold maxLen at hcm
  rw [h.len] at hmk
  clear h hr
  by_cases hp : n % 2 = 1
  · have hp0 : (n : Int) % 2 = 1 := by omega
    have hn1 : 1 ≤ n := by omega
    rw [if_pos hp, hp] at hmk
    have HP := Lib.hid hp
    clear hp
    obtain ⟨b0, off0, rfl, hb0, hc0⟩ := H.out.at' 0 (by omega)
    have hx0 := HR.out 0
    obtain ⟨z, hz⟩ : ∃ z, (l.getD 0 0).toNat = z := ⟨_, rfl⟩
    rw [hz] at hc0 hx0 hmk
    rw [Nat.add_zero] at hc0
    clear hz
    cases leaf
    · have hm2 : headN l false = 16 + z := by rw [hmk]; simp
      have hcv := conv_one (16 + (z : Int)) (headN l false) (by omega) (by omega)
      clear hmk hm2
      go_enter Try.func15, Try.ntmps15
      go_wp2
      clear hcv
      go_loopw [7, 8] (fun s i wr => ∃ k q : Nat, Hid (q = 1 + 2 * k) ∧ q ≤ n ∧ i = .int .i64 q ∧ s = .string ⟨(rpackK l false k).toArray⟩ ∧ Below w.heap.size w wr) (fun _ i _ => n - (intOf i).toNat)
      case atStart => exact ⟨0, 1, Lib.hid rfl, by omega, rfl, rfl, (Below.refl _ _).alloc (Nat.le_refl _) _⟩
      case round =>
        obtain ⟨k, q, HQ, hq, rfl, rfl, hB⟩ := hrel
        by_cases hlt : q < n
        · have hlt1 : q + 1 < n := by have := HP.out; have := HQ.out; omega
          obtain ⟨b, off, h0, hb, hc⟩ := H.out.at' q hlt
          simp at h0
          obtain ⟨rfl, rfl⟩ := h0
          obtain ⟨b', off', h1, _, hc'⟩ := H.out.at' (q + 1) hlt1
          simp at h1
          obtain ⟨rfl, rfl⟩ := h1
          have hx := HR.out q
          have hy := HR.out (q + 1)
          obtain ⟨x, hxe⟩ : ∃ x, (l.getD q 0).toNat = x := ⟨_, rfl⟩
          obtain ⟨y, hye⟩ : ∃ y, (l.getD (q + 1) 0).toNat = y := ⟨_, rfl⟩
          rw [hxe] at hc hx
          rw [hye] at hc' hy
          rw [← hB.cell (p := ⟨b0, off0 + q, none⟩) hb] at hc
          rw [← hB.cell (p := ⟨b0, off0 + (q + 1), none⟩) hb] at hc'
          have hcv : Sem.run Try.prog (convert 24 9 (Value.slice (some ⟨wr.heap.size, 0, none⟩) 1 1)) (wr.alloc (.cells #[.int .u8 (16 * (x : Int) + (y : Int))] 5)).drew = .ok (.string ⟨#[UInt8.ofNat (16 * x + y)]⟩) (wr.alloc (.cells #[.int .u8 (16 * (x : Int) + (y : Int))] 5)).drew :=
            conv_one (16 * x + y) (16 * x + y) (by omega) (by omega) wr.drew
          obtain ⟨S, hS⟩ : ∃ S, (⟨(rpackK l false k).toArray⟩ : ByteArray) = S := ⟨_, rfl⟩
          obtain ⟨C, hC⟩ : ∃ C, (⟨#[UInt8.ofNat (16 * x + y)]⟩ : ByteArray) = C := ⟨_, rfl⟩
          have hSz : S.size ≤ 100 := by
            rw [← hS]; show (rpackK l false k).toArray.size ≤ 100; have := HQ.out; simp [rpackK]; omega
          have hCz : C.size ≤ 1 := by rw [← hC]; exact Nat.le_refl _
          have HN : Hid (S ++ C = ⟨(rpackK l false (k + 1)).toArray⟩) := Lib.hid (by
            rw [← hS, ← hC, ba_snoc, rpackK_snoc, HL.out, HP.out, ← HQ.out, show 1 + (2 * k + 1) = q + 1 by have := HQ.out; omega, hxe, hye])
          rw [hC] at hcv
          rw [hS]
          clear hxe hye hS hC
          go_wp2_with fail
          go_region
          all_goals clear hcv
          all_goals go_wp2
          all_goals
            go_roundw
            case rel => exact ⟨k + 1, q + 2, Lib.hid (by have := HQ.out; omega), by omega, by go_num, by rw [HN.out], hB.drew.alloc hB.size _⟩
            case measure => simp [intOf]; omega
        · have HE : Hid (k = l.length / 2) := Lib.hid (by rw [HL.out]; have := HP.out; have := HQ.out; omega)
          go_wp2
          go_ret
          exact ⟨by rw [← HE.out]; rfl, hB⟩
    · have hm2 : headN l true = 48 + z := by rw [hmk]; simp
      have hcv := conv_one (48 + (z : Int)) (headN l true) (by omega) (by omega)
      clear hmk hm2
      go_enter Try.func15, Try.ntmps15
      go_wp2
      clear hcv
      go_loopw [7, 8] (fun s i wr => ∃ k q : Nat, Hid (q = 1 + 2 * k) ∧ q ≤ n ∧ i = .int .i64 q ∧ s = .string ⟨(rpackK l true k).toArray⟩ ∧ Below w.heap.size w wr) (fun _ i _ => n - (intOf i).toNat)
      case atStart => exact ⟨0, 1, Lib.hid rfl, by omega, rfl, rfl, (Below.refl _ _).alloc (Nat.le_refl _) _⟩
      case round =>
        obtain ⟨k, q, HQ, hq, rfl, rfl, hB⟩ := hrel
        by_cases hlt : q < n
        · have hlt1 : q + 1 < n := by have := HP.out; have := HQ.out; omega
          obtain ⟨b, off, h0, hb, hc⟩ := H.out.at' q hlt
          simp at h0
          obtain ⟨rfl, rfl⟩ := h0
          obtain ⟨b', off', h1, _, hc'⟩ := H.out.at' (q + 1) hlt1
          simp at h1
          obtain ⟨rfl, rfl⟩ := h1
          have hx := HR.out q
          have hy := HR.out (q + 1)
          obtain ⟨x, hxe⟩ : ∃ x, (l.getD q 0).toNat = x := ⟨_, rfl⟩
          obtain ⟨y, hye⟩ : ∃ y, (l.getD (q + 1) 0).toNat = y := ⟨_, rfl⟩
          rw [hxe] at hc hx
          rw [hye] at hc' hy
          rw [← hB.cell (p := ⟨b0, off0 + q, none⟩) hb] at hc
          rw [← hB.cell (p := ⟨b0, off0 + (q + 1), none⟩) hb] at hc'
          have hcv : Sem.run Try.prog (convert 24 9 (Value.slice (some ⟨wr.heap.size, 0, none⟩) 1 1)) (wr.alloc (.cells #[.int .u8 (16 * (x : Int) + (y : Int))] 5)).drew = .ok (.string ⟨#[UInt8.ofNat (16 * x + y)]⟩) (wr.alloc (.cells #[.int .u8 (16 * (x : Int) + (y : Int))] 5)).drew :=
            conv_one (16 * x + y) (16 * x + y) (by omega) (by omega) wr.drew
          obtain ⟨S, hS⟩ : ∃ S, (⟨(rpackK l true k).toArray⟩ : ByteArray) = S := ⟨_, rfl⟩
          obtain ⟨C, hC⟩ : ∃ C, (⟨#[UInt8.ofNat (16 * x + y)]⟩ : ByteArray) = C := ⟨_, rfl⟩
          have hSz : S.size ≤ 100 := by
            rw [← hS]; show (rpackK l true k).toArray.size ≤ 100; have := HQ.out; simp [rpackK]; omega
          have hCz : C.size ≤ 1 := by rw [← hC]; exact Nat.le_refl _
          have HN : Hid (S ++ C = ⟨(rpackK l true (k + 1)).toArray⟩) := Lib.hid (by
            rw [← hS, ← hC, ba_snoc, rpackK_snoc, HL.out, HP.out, ← HQ.out, show 1 + (2 * k + 1) = q + 1 by have := HQ.out; omega, hxe, hye])
          rw [hC] at hcv
          rw [hS]
          clear hxe hye hS hC
          go_wp2_with fail
          go_region
          all_goals clear hcv
          all_goals go_wp2
          all_goals
            go_roundw
            case rel => exact ⟨k + 1, q + 2, Lib.hid (by have := HQ.out; omega), by omega, by go_num, by rw [HN.out], hB.drew.alloc hB.size _⟩
            case measure => simp [intOf]; omega
        · have HE : Hid (k = l.length / 2) := Lib.hid (by rw [HL.out]; have := HP.out; have := HQ.out; omega)
          go_wp2
          go_ret
          exact ⟨by rw [← HE.out]; rfl, hB⟩
  · have hp0 : (n : Int) % 2 = 0 := by omega
    have hpn : n % 2 = 0 := by omega
    rw [if_neg hp, hpn] at hmk
    have HP := Lib.hid hpn
    clear hp hpn
    cases leaf
    · have hcv := conv_one 0 (headN l false) (by rw [hmk]; decide) (by rw [hmk]; rfl)
      clear hmk
      go_enter Try.func15, Try.ntmps15
      go_wp2
      clear hcv
      go_loopw [7, 8] (fun s i wr => ∃ k q : Nat, Hid (q = 0 + 2 * k) ∧ q ≤ n ∧ i = .int .i64 q ∧ s = .string ⟨(rpackK l false k).toArray⟩ ∧ Below w.heap.size w wr) (fun _ i _ => n - (intOf i).toNat)
      case atStart => exact ⟨0, 0, Lib.hid rfl, by omega, rfl, rfl, (Below.refl _ _).alloc (Nat.le_refl _) _⟩
      case round =>
        obtain ⟨k, q, HQ, hq, rfl, rfl, hB⟩ := hrel
        by_cases hlt : q < n
        · have hlt1 : q + 1 < n := by have := HP.out; have := HQ.out; omega
          obtain ⟨b, off, rfl, hb, hc⟩ := H.out.at' q hlt
          obtain ⟨b', off', h1, _, hc'⟩ := H.out.at' (q + 1) hlt1
          simp at h1
          obtain ⟨rfl, rfl⟩ := h1
          have hx := HR.out q
          have hy := HR.out (q + 1)
          obtain ⟨x, hxe⟩ : ∃ x, (l.getD q 0).toNat = x := ⟨_, rfl⟩
          obtain ⟨y, hye⟩ : ∃ y, (l.getD (q + 1) 0).toNat = y := ⟨_, rfl⟩
          rw [hxe] at hc hx
          rw [hye] at hc' hy
          rw [← hB.cell (p := ⟨b, off + q, none⟩) hb] at hc
          rw [← hB.cell (p := ⟨b, off + (q + 1), none⟩) hb] at hc'
          have hcv : Sem.run Try.prog (convert 24 9 (Value.slice (some ⟨wr.heap.size, 0, none⟩) 1 1)) (wr.alloc (.cells #[.int .u8 (16 * (x : Int) + (y : Int))] 5)).drew = .ok (.string ⟨#[UInt8.ofNat (16 * x + y)]⟩) (wr.alloc (.cells #[.int .u8 (16 * (x : Int) + (y : Int))] 5)).drew :=
            conv_one (16 * x + y) (16 * x + y) (by omega) (by omega) wr.drew
          obtain ⟨S, hS⟩ : ∃ S, (⟨(rpackK l false k).toArray⟩ : ByteArray) = S := ⟨_, rfl⟩
          obtain ⟨C, hC⟩ : ∃ C, (⟨#[UInt8.ofNat (16 * x + y)]⟩ : ByteArray) = C := ⟨_, rfl⟩
          have hSz : S.size ≤ 100 := by
            rw [← hS]; show (rpackK l false k).toArray.size ≤ 100; have := HQ.out; simp [rpackK]; omega
          have hCz : C.size ≤ 1 := by rw [← hC]; exact Nat.le_refl _
          have HN : Hid (S ++ C = ⟨(rpackK l false (k + 1)).toArray⟩) := Lib.hid (by
            rw [← hS, ← hC, ba_snoc, rpackK_snoc, HL.out, HP.out, ← HQ.out, show 0 + (2 * k + 1) = q + 1 by have := HQ.out; omega, hxe, hye])
          rw [hC] at hcv
          rw [hS]
          clear hxe hye hS hC
          go_wp2_with fail
          go_region
          all_goals clear hcv
          all_goals go_wp2
          all_goals
            go_roundw
            case rel => exact ⟨k + 1, q + 2, Lib.hid (by have := HQ.out; omega), by omega, by go_num, by rw [HN.out], hB.drew.alloc hB.size _⟩
            case measure => simp [intOf]; omega
        · have HE : Hid (k = l.length / 2) := Lib.hid (by rw [HL.out]; have := HP.out; have := HQ.out; omega)
          go_wp2
          go_ret
          exact ⟨by rw [← HE.out]; rfl, hB⟩
    · have hcv := conv_one 32 (headN l true) (by rw [hmk]; decide) (by rw [hmk]; rfl)
      clear hmk
      go_enter Try.func15, Try.ntmps15
      go_wp2
      clear hcv
      go_loopw [7, 8] (fun s i wr => ∃ k q : Nat, Hid (q = 0 + 2 * k) ∧ q ≤ n ∧ i = .int .i64 q ∧ s = .string ⟨(rpackK l true k).toArray⟩ ∧ Below w.heap.size w wr) (fun _ i _ => n - (intOf i).toNat)
      case atStart => exact ⟨0, 0, Lib.hid rfl, by omega, rfl, rfl, (Below.refl _ _).alloc (Nat.le_refl _) _⟩
      case round =>
        obtain ⟨k, q, HQ, hq, rfl, rfl, hB⟩ := hrel
        by_cases hlt : q < n
        · have hlt1 : q + 1 < n := by have := HP.out; have := HQ.out; omega
          obtain ⟨b, off, rfl, hb, hc⟩ := H.out.at' q hlt
          obtain ⟨b', off', h1, _, hc'⟩ := H.out.at' (q + 1) hlt1
          simp at h1
          obtain ⟨rfl, rfl⟩ := h1
          have hx := HR.out q
          have hy := HR.out (q + 1)
          obtain ⟨x, hxe⟩ : ∃ x, (l.getD q 0).toNat = x := ⟨_, rfl⟩
          obtain ⟨y, hye⟩ : ∃ y, (l.getD (q + 1) 0).toNat = y := ⟨_, rfl⟩
          rw [hxe] at hc hx
          rw [hye] at hc' hy
          rw [← hB.cell (p := ⟨b, off + q, none⟩) hb] at hc
          rw [← hB.cell (p := ⟨b, off + (q + 1), none⟩) hb] at hc'
          have hcv : Sem.run Try.prog (convert 24 9 (Value.slice (some ⟨wr.heap.size, 0, none⟩) 1 1)) (wr.alloc (.cells #[.int .u8 (16 * (x : Int) + (y : Int))] 5)).drew = .ok (.string ⟨#[UInt8.ofNat (16 * x + y)]⟩) (wr.alloc (.cells #[.int .u8 (16 * (x : Int) + (y : Int))] 5)).drew :=
            conv_one (16 * x + y) (16 * x + y) (by omega) (by omega) wr.drew
          obtain ⟨S, hS⟩ : ∃ S, (⟨(rpackK l true k).toArray⟩ : ByteArray) = S := ⟨_, rfl⟩
          obtain ⟨C, hC⟩ : ∃ C, (⟨#[UInt8.ofNat (16 * x + y)]⟩ : ByteArray) = C := ⟨_, rfl⟩
          have hSz : S.size ≤ 100 := by
            rw [← hS]; show (rpackK l true k).toArray.size ≤ 100; have := HQ.out; simp [rpackK]; omega
          have hCz : C.size ≤ 1 := by rw [← hC]; exact Nat.le_refl _
          have HN : Hid (S ++ C = ⟨(rpackK l true (k + 1)).toArray⟩) := Lib.hid (by
            rw [← hS, ← hC, ba_snoc, rpackK_snoc, HL.out, HP.out, ← HQ.out, show 0 + (2 * k + 1) = q + 1 by have := HQ.out; omega, hxe, hye])
          rw [hC] at hcv
          rw [hS]
          clear hxe hye hS hC
          go_wp2_with fail
          go_region
          all_goals clear hcv
          all_goals go_wp2
          all_goals
            go_roundw
            case rel => exact ⟨k + 1, q + 2, Lib.hid (by have := HQ.out; omega), by omega, by go_num, by rw [HN.out], hB.drew.alloc hB.size _⟩
            case measure => simp [intOf]; omega
        · have HE : Hid (k = l.length / 2) := Lib.hid (by rw [HL.out]; have := HP.out; have := HQ.out; omega)
          go_wp2
          go_ret
          exact ⟨by rw [← HE.out]; rfl, hB⟩

end Ni
end Go.Proofs.Ytihgiflhjhoghaa
