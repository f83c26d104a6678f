/-
  Contracts of nib.Join, nib.Common and the plain answer's, nib.Text.
-/
import Derived.Test.YtihgiflhjhoghaaNibA
import Derived.Test.YtihgiflhjhoghaaBuB
import Derived.Test.YtihgiflhjhoghaaConcat
import Derived.RegionTactic
import Derived.Deep.QuietTactic
import Derived.BigQuiet
import Derived.IntWalk
namespace Go.Proofs.Ytihgiflhjhoghaa
open Go.RowKit

namespace Ni
theorem join_any (a : Option Addr) (n cap : Nat) (ls : List (List UInt8)) (hn : n ≤ 1000000) (hL : ls.flatten.length ≤ 1099511627776) (w : World) (h : Cc.IsRows w a n ls) :
    Calls Try.prog 17 #[.slice a n cap] w (GotBs w ls.flatten) := by
  have hc := Cc.concat_any a n cap ls hn hL w h
  obtain ⟨r, hr⟩ : ∃ r, ls.flatten = r := ⟨_, rfl⟩
  rw [hr] at hc ⊢
  have HC := Lib.hid hc
  clear hc hr hL h
  go_enter Try.func17, Try.ntmps17
  go_wp2_with fail
  refine HC.out.mono ?_
  rintro e w1 ⟨v, rfl, hown, hb⟩
  obtain ⟨a', cap', rfl, hx⟩ := IsBs.ofOwn hown
  clear hown
  go_wp2
  go_ret
  exact ⟨_, _, _, rfl, hx, hb⟩

/-- how far two lists of bytes are alike -/
def commonN : List UInt8 → List UInt8 → Nat
  | a :: xs, b :: ys => if a = b then commonN xs ys + 1 else 0
  | _, _ => 0
theorem commonN_eq : ∀ (k : Nat) (xs ys : List UInt8), k ≤ xs.length → k ≤ ys.length → (∀ j, j < k → (xs.getD j 0).toNat = (ys.getD j 0).toNat) →
    (k = xs.length ∨ k = ys.length ∨ (xs.getD k 0).toNat ≠ (ys.getD k 0).toNat) → commonN xs ys = k
  | 0, [], _, _, _, _, _ => rfl
  | 0, _ :: _, [], _, _, _, _ => rfl
  | 0, a :: xs, b :: ys, _, _, _, h => by
    have hne : a ≠ b := by
      rintro rfl
      simp at h
    simp [commonN, hne]
  | k + 1, [], _, h, _, _, _ => absurd h (by simp)
  | k + 1, _ :: _, [], _, h, _, _ => absurd h (by simp)
  | k + 1, a :: xs, b :: ys, h1, h2, h3, h4 => by
    have hab : a = b := UInt8.toNat_inj.1 (by simpa using h3 0 (by omega))
    have := commonN_eq k xs ys (by simpa using h1) (by simpa using h2) (fun j hj => by simpa using h3 (j + 1) (by omega)) (by simpa using h4)
    simp [commonN, hab, this]

def Alike (x y : List UInt8) (k : Nat) : Prop := ∀ j, j < k → (x.getD j 0).toNat = (y.getD j 0).toNat
theorem Alike.next {x y : List UInt8} {k : Nat} (h : Alike x y k) (e : (x.getD k 0).toNat = (y.getD k 0).toNat) : Alike x y (k + 1) := fun j hj => by
  by_cases hjk : j = k
  · subst hjk; exact e
  · exact h j (by omega)

set_option maxHeartbeats 1000000 in
theorem common_any (a b : Option Addr) (n m c d : Nat) (x y : List UInt8) (hn : n ≤ 1000000) (_hm : m ≤ 1000000) (w : World) (ha : IsBs w a n c x) (hb : IsBs w b m d y) :
    Calls Try.prog 18 #[.slice a n c, .slice b m d] w fun e w' => e = .returned (.int .i64 (commonN x y : Nat)) ∧ ∃ q, w' = w.drewN q := by
  have HA := Lib.hid ha
  have HB := Lib.hid hb
  clear ha hb
  go_enter Try.func18, Try.ntmps18
  go_wp2
  go_loopw [5] (fun i wr => ∃ k : Nat, k ≤ n ∧ k ≤ m ∧ i = .int .i64 k ∧ Hid (Alike x y k) ∧ ∃ q, wr = w.drewN q) (fun i _ => n - (intOf i).toNat)
  case atStart => exact ⟨0, Nat.zero_le _, Nat.zero_le _, rfl, Lib.hid (fun j hj => absurd hj (Nat.not_lt_zero _)), 0, rfl⟩
  case round =>
    obtain ⟨k, hk, hkm, rfl, HK, q, rfl⟩ := hrel
    by_cases hlt : k < n ∧ k < m
    · obtain ⟨h1, h2⟩ := hlt
      obtain ⟨b1, off1, rfl, _, hc1⟩ := HA.out.at' k h1
      obtain ⟨b2, off2, rfl, _, hc2⟩ := HB.out.at' k h2
      obtain ⟨u, hu⟩ : ∃ u, (x.getD k 0).toNat = u := ⟨_, rfl⟩
      obtain ⟨v, hv⟩ : ∃ v, (y.getD k 0).toNat = v := ⟨_, rfl⟩
      rw [hu] at hc1
      rw [hv] at hc2
      by_cases huv : u = v
      · subst huv
        have HN := Lib.hid (HK.out.next (hu.trans hv.symm))
        clear hu hv
        have hd : decide ((k : Int) < min (n : Int) (m : Int)) = true := decide_eq_true (by omega)
        go_wp2_with fail
        go_quiet (fail)
        go_wp2
        go_roundw
        case rel => exact ⟨k + 1, by omega, by omega, by go_num, HN, (by first | exact ⟨_, rfl⟩ | exact ⟨_, World.drewN_drewN ..⟩)⟩
        case measure => simp [intOf]; omega
      · have HE : Hid (commonN x y = k) := Lib.hid (commonN_eq k x y (by rw [HA.out.len]; exact hk) (by rw [HB.out.len]; exact hkm) HK.out (Or.inr (Or.inr (by rw [hu, hv]; exact huv))))
        have hd : decide ((k : Int) < min (n : Int) (m : Int)) = true := decide_eq_true (by omega)
        have huv2 : ((u : Int) == (v : Int)) = false := by simp; omega
        clear hu hv
        go_wp2_with fail
        go_quiet (fail)
        go_wp2
        go_ret
        exact ⟨by rw [HE.out]; rfl, (by first | exact ⟨_, rfl⟩ | exact ⟨_, World.drewN_drewN ..⟩)⟩
    · have HE : Hid (commonN x y = k) := Lib.hid (commonN_eq k x y (by rw [HA.out.len]; exact hk) (by rw [HB.out.len]; exact hkm) HK.out (by rw [HA.out.len, HB.out.len]; omega))
      have hd : decide ((k : Int) < min (n : Int) (m : Int)) = false := decide_eq_false (by omega)
      go_wp2_with fail
      go_quiet (fail)
      go_wp2
      go_ret
      exact ⟨by rw [HE.out]; rfl, (by first | exact ⟨_, rfl⟩ | exact ⟨_, World.drewN_drewN ..⟩)⟩

set_option maxHeartbeats 1000000 in
theorem rcommon_any (a b : Option Addr) (n m c d : Nat) (x y : List UInt8) (hn : n ≤ 1000000) (_hm : m ≤ 1000000) (w : World) (ha : IsBs w a n c x) (hb : IsBs w b m d y) :
    Calls Try.prog 19 #[.slice a n c, .slice b m d] w fun e w' => e = .returned (.int .i64 (commonN x y : Nat)) ∧ ∃ q, w' = w.drewN q := by
  have HA := Lib.hid ha
  have HB := Lib.hid hb
  clear ha hb
  go_enter Try.func19, Try.ntmps19
  go_wp2
  go_loopw [5] (fun i wr => ∃ k : Nat, k ≤ n ∧ k ≤ m ∧ i = .int .i64 k ∧ Hid (Alike x y k) ∧ ∃ q, wr = w.drewN q) (fun i _ => n - (intOf i).toNat)
  case atStart => exact ⟨0, Nat.zero_le _, Nat.zero_le _, rfl, Lib.hid (fun j hj => absurd hj (Nat.not_lt_zero _)), 0, rfl⟩
  case round =>
    obtain ⟨k, hk, hkm, rfl, HK, q, rfl⟩ := hrel
    by_cases h1 : k < n
    · by_cases h2 : k < m
      · obtain ⟨b1, off1, rfl, _, hc1⟩ := HA.out.at' k h1
        obtain ⟨b2, off2, rfl, _, hc2⟩ := HB.out.at' k h2
        obtain ⟨u, hu⟩ : ∃ u, (x.getD k 0).toNat = u := ⟨_, rfl⟩
        obtain ⟨v, hv⟩ : ∃ v, (y.getD k 0).toNat = v := ⟨_, rfl⟩
        rw [hu] at hc1
        rw [hv] at hc2
        have hd : decide ((m : Int) ≤ (k : Int)) = false := decide_eq_false (by omega)
        by_cases huv : u = v
        · subst huv
          have HN := Lib.hid (HK.out.next (hu.trans hv.symm))
          clear hu hv
          go_wp2_with fail
          go_quiet (fail)
          go_wp2
          go_roundw
          case rel => exact ⟨k + 1, by omega, by omega, by go_num, HN, (by first | exact ⟨_, rfl⟩ | exact ⟨_, World.drewN_drewN ..⟩)⟩
          case measure => simp [intOf]; omega
        · have HE : Hid (commonN x y = k) := Lib.hid (commonN_eq k x y (by rw [HA.out.len]; exact hk) (by rw [HB.out.len]; exact hkm) HK.out (Or.inr (Or.inr (by rw [hu, hv]; exact huv))))
          have huv2 : ((u : Int) != (v : Int)) = true := by simp; omega
          clear hu hv
          go_wp2_with fail
          go_quiet (fail)
          go_wp2
          go_ret
          exact ⟨by rw [HE.out]; rfl, (by first | exact ⟨_, rfl⟩ | exact ⟨_, World.drewN_drewN ..⟩)⟩
      · have HE : Hid (commonN x y = k) := Lib.hid (commonN_eq k x y (by rw [HA.out.len]; exact hk) (by rw [HB.out.len]; exact hkm) HK.out (by rw [HA.out.len, HB.out.len]; omega))
        have hd : decide ((m : Int) ≤ (k : Int)) = true := decide_eq_true (by omega)
        go_wp2_with fail
        go_quiet (fail)
        go_wp2
        go_ret
        exact ⟨by rw [HE.out]; rfl, (by first | exact ⟨_, rfl⟩ | exact ⟨_, World.drewN_drewN ..⟩)⟩
    · obtain rfl : k = n := by omega
      have HE : Hid (commonN x y = k) := Lib.hid (commonN_eq k x y (by rw [HA.out.len]; exact hk) (by rw [HB.out.len]; exact hkm) HK.out (by rw [HA.out.len]; omega))
      go_wp2
      go_ret
      exact ⟨by rw [HE.out]; rfl, (by first | exact ⟨_, rfl⟩ | exact ⟨_, World.drewN_drewN ..⟩)⟩

/-! ### Text -/
def digN (x : Nat) : Nat := if x < 10 then 48 + x else if x < 16 then 87 + x else 63
theorem dig_at : ∀ x : Fin 16, ((⟨#[48, 49, 50, 51, 52, 53, 54, 55, 56, 57, 97, 98, 99, 100, 101, 102]⟩ : ByteArray)[(x : Nat)]'(x.isLt)).toNat = digN x := by decide +kernel
def textK (l : List UInt8) (k : Nat) : List UInt8 := (l.take k).map fun b => UInt8.ofNat (digN b.toNat)
theorem digN_lt (x : Nat) : digN x < 256 := by unfold digN; split; omega; split <;> omega
theorem textK_snoc (l : List UInt8) (k : Nat) (h : k < l.length) : textK l (k + 1) = textK l k ++ [UInt8.ofNat (digN (l.getD k 0).toNat)] := by
  unfold textK; rw [take_snoc_getD l k h]; simp
def Txt (w : World) (l : List UInt8) (k : Nat) (wr : World) : Prop :=
  Bu.Is w.heap.size w.heap.size (Lib.byteCells (textK l k)) wr ∧ Below w.heap.size w wr
theorem Txt.start (w : World) (l : List UInt8) : Txt w l 0 (w.alloc (.cells #[.pointer none, .slice none 0 0] 49)) :=
  ⟨Bu.fresh (Nat.le_refl _) (by show (w.heap.push _)[w.heap.size]? = _; simp), (Below.refl _ _).alloc (Nat.le_refl _) _⟩
theorem Txt.write {w wr : World} {l : List UInt8} {k : Nat} (h : Txt w l k wr) (hk : k < l.length) (hl : l.length ≤ 1000000) (c : Int) (hc : c = (digN (l.getD k 0).toNat : Nat)) :
    Calls Try.prog 25 #[.pointer (some ⟨w.heap.size, 0, none⟩), .int .u8 c] wr fun e w' => e = .returned .nilIface ∧ Txt w l (k + 1) w' := by
  subst hc
  refine (Bu.writeByte _ h.1 (by rw [Lib.byteCells_length]; simp [textK]; omega) h.2.size).mono ?_
  rintro e w' ⟨rfl, h1, h2, _⟩
  refine ⟨rfl, ?_, h.2.trans h2⟩
  rw [textK_snoc l k hk, Lib.byteCells_append]
  have e : (UInt8.ofNat (digN (l.getD k 0).toNat)).toNat = digN (l.getD k 0).toNat := by
    have := digN_lt (l.getD k 0).toNat
    simp only [UInt8.toNat_ofNat']; omega
  have e2 : Lib.byteCells [UInt8.ofNat (digN (l.getD k 0).toNat)] = [.int .u8 (digN (l.getD k 0).toNat : Nat)] := by
    simp only [Lib.byteCells, List.map_cons, List.map_nil, e]
  rw [e2]
  exact h1

set_option maxHeartbeats 1000000 in
theorem text_any (a : Option Addr) (n c : Nat) (l : List UInt8) (hn : n ≤ 1000000) (w : World) (h : IsBs w a n c l) :
    Calls Try.prog 16 #[.slice a n c] w fun e w' => e = .returned (.string ⟨(textK l n).toArray⟩) ∧ Below w.heap.size w w' := by
  have H := Lib.hid h
  have HL := Lib.hid h.len
  have HS := Lib.hid (Txt.start w l)
  clear h
  go_enter Try.func16, Try.ntmps16
  go_wp2
  go_loopw [8] (fun i wr => ∃ k : Nat, k ≤ n ∧ i = .int .i64 k ∧ Txt w l k wr) (fun i _ => n - (intOf i).toNat)
  case atStart => exact ⟨0, Nat.zero_le _, rfl, HS.out⟩
  case round =>
    obtain ⟨k, hk, rfl, hT⟩ := hrel
    by_cases hlt : k < n
    · obtain ⟨b, off, rfl, hb, hc⟩ := H.out.at' k hlt
      have hc2 : wr.cell? ⟨b, off + k, none⟩ = some (.int .u8 (l.getD k 0).toNat) := by rw [hT.2.cell (p := ⟨b, off + k, none⟩) hb]; exact hc
      clear hc
      have hW := Lib.hid (fun c => hT.write (by rw [HL.out]; exact hlt) (by rw [HL.out]; exact hn) c)
      obtain ⟨x, hx⟩ : ∃ x, (l.getD k 0).toNat = x := ⟨_, rfl⟩
      rw [hx] at hc2 hW
      have hx256 : x < 256 := by rw [← hx]; exact UInt8.toNat_lt _
      clear hx
      by_cases h16 : x < 16
      · have HD := Lib.hid (dig_at ⟨x, h16⟩)
        have hcon := Lib.hid (hW.out _ (congrArg Int.ofNat HD.out))
        clear hW HD
        go_wp2_with fail
        refine hcon.out.mono ?_
        rintro e w1 ⟨rfl, hT2⟩
        go_wp2
        go_roundw
        case rel => exact ⟨k + 1, by omega, by go_num, hT2⟩
        case measure => simp [intOf]; omega
      · have HD : Hid ((63 : Int) = (digN x : Nat)) := Lib.hid (by unfold digN; rw [if_neg (by omega), if_neg (by omega)]; rfl)
        have hcon := Lib.hid (hW.out _ HD.out)
        go_wp2_with fail
        refine hcon.out.mono ?_
        rintro e w1 ⟨rfl, hT2⟩
        go_wp2
        go_roundw
        case rel => exact ⟨k + 1, by omega, by go_num, hT2⟩
        case measure => simp [intOf]; omega
    · obtain rfl : k = n := by omega
      go_wp2_with (go_at_call 26; refine (Bu.text hT.1 hT.2.size).mono ?_)
      rintro e w2 ⟨rfl, hb2⟩
      go_wp2
      go_ret
      exact ⟨rfl, hT.2.trans hb2⟩

end Ni
end Go.Proofs.Ytihgiflhjhoghaa
