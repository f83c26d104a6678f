/-
  Contracts of nib.spread and nib.pairs.
-/
import Derived.Test.YtoeblhdddehemaaDoorMg10
import Derived.Test.YtoeblhdddehemaaDoorMg1
import Derived.Deep.RegionWith
import Derived.IntWalk
import Derived.Test.YtoeblhdddehemaaDoorMg8
import Derived.RegionTactic
import Derived.Deep.QuietTactic
import Derived.BigQuiet
namespace Go.Proofs.YtoeblhdddehemaaDoor
set_option maxRecDepth 20000
open Go.RowKit

namespace Ni
/-- all nibbles of a text -/
def nibsL (s : ByteArray) : List UInt8 := (List.range (2 * s.size)).map fun i => UInt8.ofNat (nibAt s i)
theorem nibAt_lt (s : ByteArray) (i : Nat) : nibAt s i < 16 := by
  unfold nibAt
  have := UInt8.toNat_lt (s.data.toList.getD (i / 2) 0)
  split <;> omega
theorem nibsL_length (s : ByteArray) : (nibsL s).length = 2 * s.size := by simp [nibsL]
theorem nibsL_getD (s : ByteArray) (i : Nat) (h : i < 2 * s.size) : ((nibsL s).getD i 0).toNat = nibAt s i := by
  have := nibAt_lt s i
  simp [nibsL, List.getD, h]
  omega

/-- what holds at the head of a round of spread: k nibbles are laid -/
def Spr (w : World) (s : ByteArray) (k : Nat) (wr : World) : Prop :=
  wr.rowIs (w.heap.size + 1) 5 (2 * s.size) (fun j => .int .u8 (if j < k then nibAt s j else 0 : Nat)) ∧ wr.cell? ⟨w.heap.size, 0, none⟩ = some (.string s) ∧ Below w.heap.size w wr
theorem Spr.next {w wr : World} {s : ByteArray} {k : Nat} (h : Spr w s k wr) (hk : k < 2 * s.size) : Spr w s (k + 1) (wr.setCell ⟨w.heap.size + 1, k, none⟩ (.int .u8 (nibAt s k : Nat))) := by
  refine ⟨(h.1.set k _).congr ?_, ?_, h.2.2.setCell (p := ⟨w.heap.size + 1, k, none⟩) (by simp) _⟩
  · intro j hj
    by_cases e : j = k
    · subst e; simp
    · have : j < k + 1 ↔ j < k := by omega
      simp [e, this]
  · rw [World.cell?_setCell_other _ _ _ _ (by simp)]
    exact h.2.1
theorem Spr.start (w : World) (s : ByteArray) : Spr w s 0 ((w.alloc (.cells #[.string s] 9)).alloc (.cells (madeCells #[.int .u8 0] (2 * s.size)) 5)) := by
  refine ⟨?_, ?_, ((Below.refl _ _).alloc (Nat.le_refl _) _).alloc (by simp) _⟩
  · have := World.rowIs_made (w.alloc (.cells #[.string s] 9)) (.int .u8 0) (2 * s.size) 5
    simpa using this
  · simp
theorem info_u8 : (Tryd.prog.info? 5).map (fun i => (i.zero, i.size, i.bytes)) = some (some (.int .u8 0), 1, 1) := by kernel_rfl

set_option maxHeartbeats 400000 in
theorem spread_any (s : ByteArray) (hs : s.size ≤ 1000) (w : World) :
    Calls Tryd.prog 109 #[.string s] w (GotBs w (nibsL s)) := by
  obtain ⟨m, hm⟩ : ∃ m, 2 * s.size = m := ⟨_, rfl⟩
  have hmk := run_make_row' (P := Tryd.prog) 42 5 (.int .u8 0) 1 Tryd.underlying42 info_u8 rfl .i64 .i64 m (by omega) (by omega)
  have e : ((m : Nat) : Int) = 2 * (s.size : Int) := by omega
  rw [e] at hmk
  have HS := Lib.hid (Spr.start w s)
  rw [hm] at HS
  have HM := Lib.hid hm
  have hm2 : m ≤ 2 * s.size := by omega
  clear e hm
  go_enter Tryd.func109, Tryd.ntmps109
  go_wp2_with fail
  refine (teller_any _ _).mono ?_
  rintro e w1 ⟨rfl, rfl⟩
  go_wp2
  clear hmk
  go_loopw [14] (fun i wr => ∃ k : Nat, k ≤ m ∧ i = .int .i64 k ∧ Spr w s k wr) (fun i _ => m - (intOf i).toNat)
  case atStart => exact ⟨0, Nat.zero_le _, rfl, HS.out⟩
  case round =>
    obtain ⟨k, hk, rfl, hS⟩ := hrel
    by_cases hlt : k < m
    · have hc := hS.2.1
      have hz := hS.1.lt
      have hcell : wr.cell? ⟨w.heap.size + 1, k, none⟩ = some (.int .u8 0) := by
        rw [hS.1.cell (by rw [HM.out]; exact hlt)]; simp
      have hfr := hS.1.frozen k
      go_wp2_with fail
      refine (teller1_any _ s k (by unfold maxLen; omega) (by omega) _ hc).mono ?_
      rintro e w2 ⟨rfl, rfl⟩
      go_wp2
      go_roundw
      case rel => exact ⟨k + 1, by omega, by go_num, hS.next (by rw [HM.out]; exact hlt)⟩
      case measure => simp [intOf]; omega
    · obtain rfl : k = m := by omega
      have HG : Hid (IsBs wr (some ⟨w.heap.size + 1, 0, none⟩) k k (nibsL s)) := Lib.hid (by
        refine IsBs.ofRow (nibsL s) (by unfold maxLen; omega) (by have := hS.1; rw [HM.out] at this; exact this) (by rw [nibsL_length, HM.out]) (fun j hj => ?_)
        rw [if_pos hj, nibsL_getD s j (by rw [HM.out]; exact hj)])
      have hB := hS.2.2
      go_wp2
      go_ret
      exact ⟨_, _, _, rfl, HG.out, hB⟩

/-- k bytes of the nibbles that stand two and two -/
def pairsK (l : List UInt8) (k : Nat) : List UInt8 := (List.range k).map fun j => UInt8.ofNat (16 * (l.getD (2 * j) 0).toNat + (l.getD (2 * j + 1) 0).toNat)
theorem pairsK_snoc (l : List UInt8) (k : Nat) : pairsK l (k + 1) = pairsK l k ++ [UInt8.ofNat (16 * (l.getD (2 * k) 0).toNat + (l.getD (2 * k + 1) 0).toNat)] := by
  simp [pairsK, List.range_succ]
theorem pairsK_length (l : List UInt8) (k : Nat) : (pairsK l k).length = k := by simp [pairsK]
theorem wrap16 : ∀ x : Fin 16, IntKind.u8.wrap (((x : Nat) : Int) * 16) = ((x : Nat) : Int) * 16 := by decide +kernel
theorem or_nib : ∀ x y : Fin 16, bits .or .u8 (((x : Nat) : Int) * 16) ((y : Nat) : Int) = ((16 * (x : Nat) + (y : Nat) : Nat) : Int) := by decide +kernel

theorem rightB_getD (l : List UInt8) (h : rightB l = true) (j : Nat) : (l.getD j 0).toNat < 16 := by
  unfold rightB at h
  rw [List.all_eq_true] at h
  by_cases hj : j < l.length
  · have := h l[j] (List.getElem_mem _)
    simp [List.getD, hj] at this ⊢
    omega
  · simp [List.getD, hj]

/-- what holds at the head of a round of pairs: k bytes are laid -/
def Prs (w : World) (l : List UInt8) (k : Nat) (wr : World) : Prop :=
  Bu.Is w.heap.size w.heap.size (Lib.byteCells (pairsK l k)) wr ∧ Below w.heap.size w wr
theorem Prs.start (w : World) (l : List UInt8) : Prs w l 0 (w.alloc (.cells #[.pointer none, .slice none 0 0] 93)) :=
  ⟨Bu.fresh (Nat.le_refl _) (by show (w.heap.push _)[w.heap.size]? = _; simp), (Below.refl _ _).alloc (Nat.le_refl _) _⟩
theorem Prs.write {w wr : World} {l : List UInt8} {k : Nat} (h : Prs w l k wr) (hk : k ≤ 1000) (c : Int) (hc : c = ((16 * (l.getD (2 * k) 0).toNat + (l.getD (2 * k + 1) 0).toNat : Nat) : Int)) (hx : (l.getD (2 * k) 0).toNat < 16) (hy : (l.getD (2 * k + 1) 0).toNat < 16) :
    Calls Tryd.prog 103 #[.pointer (some ⟨w.heap.size, 0, none⟩), .int .u8 c] wr fun e w' => e = .returned .nilIface ∧ Prs w l (k + 1) w' := by
  subst hc
  refine (Bu.writeByte _ h.1 (by rw [Lib.byteCells_length, pairsK_length]; omega) h.2.size).mono ?_
  rintro e w' ⟨rfl, h1, h2, _⟩
  refine ⟨rfl, ?_, h.2.trans h2⟩
  rw [pairsK_snoc, Lib.byteCells_append]
  have e : (UInt8.ofNat (16 * (l.getD (2 * k) 0).toNat + (l.getD (2 * k + 1) 0).toNat)).toNat = 16 * (l.getD (2 * k) 0).toNat + (l.getD (2 * k + 1) 0).toNat := by
    simp only [UInt8.toNat_ofNat']; omega
  have e2 : Lib.byteCells [UInt8.ofNat (16 * (l.getD (2 * k) 0).toNat + (l.getD (2 * k + 1) 0).toNat)] = [.int .u8 ((16 * (l.getD (2 * k) 0).toNat + (l.getD (2 * k + 1) 0).toNat : Nat) : Int)] := by
    simp only [Lib.byteCells, List.map_cons, List.map_nil, e]
  rw [e2]
  exact h1
theorem Prs.drew {w wr : World} {l : List UInt8} {k : Nat} (h : Prs w l k wr) : Prs w l k wr.drew := ⟨h.1, h.2.drew⟩

set_option maxHeartbeats 1000000 in
theorem pairs_any (a : Option Addr) (n cap : Nat) (l : List UInt8) (hr : rightB l = true) (h2 : n % 2 = 0) (hn : n ≤ 1000) (w : World) (h : IsBs w a n cap l) :
    Calls Tryd.prog 89 #[.slice a n cap] w fun e w' => e = .returned (.string ⟨(pairsK l (n / 2)).toArray⟩) ∧ Below w.heap.size w w' := by
  have H := Lib.hid h
  have HR := Lib.hid (rightB_getD l hr)
  have H2 := Lib.hid h2
  have HS := Lib.hid (Prs.start w l)
  clear h hr h2
  go_enter Tryd.func89, Tryd.ntmps89
  go_wp2
  go_loopw [4] (fun i wr => ∃ k : Nat, 2 * k ≤ n ∧ i = .int .i64 (2 * k) ∧ Prs w l k wr) (fun i _ => n - (intOf i).toNat)
  case atStart => exact ⟨0, Nat.zero_le _, rfl, HS.out⟩
  case round =>
    obtain ⟨k, hk, rfl, hP⟩ := hrel
    by_cases hlt : 2 * k < n
    · have hlt1 : 2 * k + 1 < n := by have := H2.out; omega
      obtain ⟨b, off, rfl, hb, hc⟩ := H.out.at' (2 * k) hlt
      obtain ⟨b', off', h1, _, hc'⟩ := H.out.at' (2 * k + 1) hlt1
      simp at h1
      obtain ⟨rfl, rfl⟩ := h1
      have hx := HR.out (2 * k)
      have hy := HR.out (2 * k + 1)
      obtain ⟨x, hxe⟩ : ∃ x, (l.getD (2 * k) 0).toNat = x := ⟨_, rfl⟩
      obtain ⟨y, hye⟩ : ∃ y, (l.getD (2 * k + 1) 0).toNat = y := ⟨_, rfl⟩
      have ho := or_nib ⟨x, hxe ▸ hx⟩ ⟨y, hye ▸ hy⟩
      have hw16 := wrap16 ⟨x, hxe ▸ hx⟩
      have HW : Hid (∀ c : Int, c = bits .or .u8 ((x : Int) * 16) (y : Int) → Calls Tryd.prog 103 #[.pointer (some ⟨w.heap.size, 0, none⟩), .int .u8 c] wr.drew fun e w' => e = .returned .nilIface ∧ Prs w l (k + 1) w') := Lib.hid (fun c hc => by
        refine hP.drew.write (by omega) _ ?_ hx hy
        rw [hxe, hye, hc]
        exact ho)
      have hcon := Lib.hid (HW.out _ rfl)
      have hcon2 : Hid (Calls Tryd.prog 103 #[.pointer (some ⟨w.heap.size, 0, none⟩), .int .u8 (bits .or .u8 (IntKind.u8.wrap ((x : Int) * 16)) (y : Int))] wr.drew fun e w' => e = .returned .nilIface ∧ Prs w l (k + 1) w') := Lib.hid (HW.out _ (by rw [show IntKind.u8.wrap ((x : Int) * 16) = (x : Int) * 16 from hw16]))
      clear HW ho hw16
      rw [hxe] at hc hx
      rw [hye] at hc' hy
      rw [← hP.2.cell (p := ⟨b, off + 2 * k, none⟩) hb] at hc
      rw [← hP.2.cell (p := ⟨b, off + (2 * k + 1), none⟩) hb] at hc'
      clear hxe hye
      go_wp2_with fail
      have q1 : (0 : Int) ≤ 2 * (k : Int) := by omega
      have q2 : 2 * (k : Int) < (n : Int) := by omega
      have q3 : (0 : Int) ≤ 2 * (k : Int) + 1 := by omega
      have q4 : 2 * (k : Int) + 1 < (n : Int) := by omega
      have q5 : (2 * (k : Int)).toNat = 2 * k := by omega
      have q6 : (2 * (k : Int) + 1).toNat = 2 * k + 1 := by omega
      have q7 : IntKind.i64.wrap (2 * (k : Int) + 1) = 2 * (k : Int) + 1 := IntWalk.i64_in _ (by omega)
      go_region_with (go_at_call 103; (first | (with_reducible refine hcon.out.mono ?_) | (with_reducible refine hcon2.out.mono ?_)); rintro e w' ⟨rfl, hP2⟩)
      all_goals clear q7 q6 q5
      all_goals go_wp2
      all_goals
        go_roundw
        case rel => exact ⟨k + 1, by omega, by go_num, hP2⟩
        case measure => simp [intOf]; omega
    · have hkk : k = n / 2 := by have := H2.out; omega
      have HP : Hid (Prs w l (n / 2) wr) := Lib.hid (by rw [← hkk]; exact hP)
      clear hkk
      go_wp2_with (go_at_call 62; refine (Bu.text HP.out.1 HP.out.2.size).mono ?_)
      rintro e w2 ⟨rfl, hb2⟩
      go_wp2
      go_ret
      exact ⟨rfl, HP.out.2.trans hb2⟩

end Ni
end Go.Proofs.YtoeblhdddehemaaDoor

/-
  Contracts of nib.Join, nib.Common and the plain answer's, nib.Text.
-/
namespace Go.Proofs.YtoeblhdddehemaaDoor
set_option maxRecDepth 20000
open Go.RowKit

namespace Ni
theorem join_any (a : Option Addr) (n cap : Nat) (ls : List (List UInt8)) (hn : n ≤ 1000000) (hL : ls.flatten.length ≤ 1099511627776) (w : World) (h : Cc.IsRows w a n ls) :
    Calls Tryd.prog 90 #[.slice a n cap] w (GotBs w ls.flatten) := by
  have hc := Cc.concat_any a n cap ls hn hL w h
  obtain ⟨r, hr⟩ : ∃ r, ls.flatten = r := ⟨_, rfl⟩
  rw [hr] at hc ⊢
  have HC := Lib.hid hc
  clear hc hr hL h
  go_enter Tryd.func90, Tryd.ntmps90
  go_wp2_with fail
  refine HC.out.mono ?_
  rintro e w1 ⟨v, rfl, hown, hb⟩
  obtain ⟨a', cap', rfl, hx⟩ := IsBs.ofOwn hown
  clear hown
  go_wp2
  go_ret
  exact ⟨_, _, _, rfl, hx, hb⟩

/-- how far two lists of bytes are alike -/
def commonN : List UInt8 → List UInt8 → Nat
  | a :: xs, b :: ys => if a = b then commonN xs ys + 1 else 0
  | _, _ => 0
theorem commonN_eq : ∀ (k : Nat) (xs ys : List UInt8), k ≤ xs.length → k ≤ ys.length → (∀ j, j < k → (xs.getD j 0).toNat = (ys.getD j 0).toNat) →
    (k = xs.length ∨ k = ys.length ∨ (xs.getD k 0).toNat ≠ (ys.getD k 0).toNat) → commonN xs ys = k
  | 0, [], _, _, _, _, _ => rfl
  | 0, _ :: _, [], _, _, _, _ => rfl
  | 0, a :: xs, b :: ys, _, _, _, h => by
    have hne : a ≠ b := by
      rintro rfl
      simp at h
    simp [commonN, hne]
  | k + 1, [], _, h, _, _, _ => absurd h (by simp)
  | k + 1, _ :: _, [], _, h, _, _ => absurd h (by simp)
  | k + 1, a :: xs, b :: ys, h1, h2, h3, h4 => by
    have hab : a = b := UInt8.toNat_inj.1 (by simpa using h3 0 (by omega))
    have := commonN_eq k xs ys (by simpa using h1) (by simpa using h2) (fun j hj => by simpa using h3 (j + 1) (by omega)) (by simpa using h4)
    simp [commonN, hab, this]

def Alike (x y : List UInt8) (k : Nat) : Prop := ∀ j, j < k → (x.getD j 0).toNat = (y.getD j 0).toNat
theorem Alike.next {x y : List UInt8} {k : Nat} (h : Alike x y k) (e : (x.getD k 0).toNat = (y.getD k 0).toNat) : Alike x y (k + 1) := fun j hj => by
  by_cases hjk : j = k
  · subst hjk; exact e
  · exact h j (by omega)

/-! ### Text -/
def digN (x : Nat) : Nat := if x < 10 then 48 + x else if x < 16 then 87 + x else 63
theorem dig_at : ∀ x : Fin 16, ((⟨#[48, 49, 50, 51, 52, 53, 54, 55, 56, 57, 97, 98, 99, 100, 101, 102]⟩ : ByteArray)[(x : Nat)]'(x.isLt)).toNat = digN x := by decide +kernel
def textK (l : List UInt8) (k : Nat) : List UInt8 := (l.take k).map fun b => UInt8.ofNat (digN b.toNat)
theorem digN_lt (x : Nat) : digN x < 256 := by unfold digN; split; omega; split <;> omega
theorem textK_snoc (l : List UInt8) (k : Nat) (h : k < l.length) : textK l (k + 1) = textK l k ++ [UInt8.ofNat (digN (l.getD k 0).toNat)] := by
  unfold textK; rw [take_snoc_getD l k h]; simp
def Txt (w : World) (l : List UInt8) (k : Nat) (wr : World) : Prop :=
  Bu.Is w.heap.size w.heap.size (Lib.byteCells (textK l k)) wr ∧ Below w.heap.size w wr
theorem Txt.start (w : World) (l : List UInt8) : Txt w l 0 (w.alloc (.cells #[.pointer none, .slice none 0 0] 93)) :=
  ⟨Bu.fresh (Nat.le_refl _) (by show (w.heap.push _)[w.heap.size]? = _; simp), (Below.refl _ _).alloc (Nat.le_refl _) _⟩
theorem Txt.write {w wr : World} {l : List UInt8} {k : Nat} (h : Txt w l k wr) (hk : k < l.length) (hl : l.length ≤ 1000000) (c : Int) (hc : c = (digN (l.getD k 0).toNat : Nat)) :
    Calls Tryd.prog 103 #[.pointer (some ⟨w.heap.size, 0, none⟩), .int .u8 c] wr fun e w' => e = .returned .nilIface ∧ Txt w l (k + 1) w' := by
  subst hc
  refine (Bu.writeByte _ h.1 (by rw [Lib.byteCells_length]; simp [textK]; omega) h.2.size).mono ?_
  rintro e w' ⟨rfl, h1, h2, _⟩
  refine ⟨rfl, ?_, h.2.trans h2⟩
  rw [textK_snoc l k hk, Lib.byteCells_append]
  have e : (UInt8.ofNat (digN (l.getD k 0).toNat)).toNat = digN (l.getD k 0).toNat := by
    have := digN_lt (l.getD k 0).toNat
    simp only [UInt8.toNat_ofNat']; omega
  have e2 : Lib.byteCells [UInt8.ofNat (digN (l.getD k 0).toNat)] = [.int .u8 (digN (l.getD k 0).toNat : Nat)] := by
    simp only [Lib.byteCells, List.map_cons, List.map_nil, e]
  rw [e2]
  exact h1

end Ni
end Go.Proofs.YtoeblhdddehemaaDoor
