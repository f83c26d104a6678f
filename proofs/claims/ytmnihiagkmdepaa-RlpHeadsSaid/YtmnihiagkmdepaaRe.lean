/-
  Numbers in the fewest bytes; what stands ahead of so many bytes; contracts of rlp.number and rlp.Head.
-/
import Derived.Test.YtmnihiagkmdepaaRd
import Derived.Test.YtmnihiagkmdepaaIt
import Derived.Test.YtmnihiagkmdepaaConcat
import Derived.Test.YtmnihiagkmdepaaBuB
namespace Go.Proofs.Ytmnihiagkmdepaa
open Go.RowKit

namespace Rl
/-- the digits, the lowest first -/
def dig (n : Nat) : List UInt8 := if n = 0 then [] else UInt8.ofNat n :: dig (n / 256)
termination_by n
decreasing_by omega
theorem dig_zero : dig 0 = [] := by rw [dig]; rfl
theorem dig_pos {n : Nat} (h : 0 < n) : dig n = UInt8.ofNat n :: dig (n / 256) := by rw [dig, if_neg (by omega)]
theorem dig_length (k : Nat) : ∀ n, n < 256 ^ k → (dig n).length ≤ k := by
  induction k with
  | zero =>
    intro n hn
    obtain rfl : n = 0 := by simpa using hn
    simp [dig_zero]
  | succ k ih =>
    intro n hn
    by_cases h : n = 0
    · subst h; simp [dig_zero]
    · rw [dig_pos (by omega)]
      have := ih (n / 256) (by rw [Nat.pow_succ] at hn; omega)
      simp; omega
/-- .. the highest first -/
def bigL (n : Nat) : List UInt8 := (dig n).reverse
theorem bigL_length {n : Nat} (h : n < 2 ^ 64) : (bigL n).length ≤ 8 := by
  unfold bigL
  rw [List.length_reverse]
  exact dig_length 8 n (by simpa using h)
theorem bigL_pos {n : Nat} (h : 0 < n) : bigL n = bigL (n / 256) ++ [UInt8.ofNat n] := by
  unfold bigL
  rw [dig_pos h]
  simp
theorem bigL_zero : bigL 0 = [] := by unfold bigL; rw [dig_zero]; rfl

def encB (l : List UInt8) : List Value := l.map fun x => Value.int .u8 x.toNat
theorem encB_snoc (l : List UInt8) (n : Nat) : encB l ++ [.int .u8 (IntKind.u8.wrap (n : Int))] = encB (l ++ [UInt8.ofNat n]) := by
  unfold encB
  rw [List.map_append]
  simp [IntKind.wrap_u8]

theorem row_of_owns {w : World} {B : Nat} {t : TypeId} {v : Value} {n : Nat} {l : List UInt8} (h : w.ownsRow B t 1 v n (encB l)) (h0 : 0 < n) :
    ∃ g cap f, v = .slice (some ⟨g, 0, none⟩) n cap ∧ B ≤ g ∧ n ≤ cap ∧ cap ≤ maxLen ∧ w.rowIs g t cap f ∧ ∀ j, j < n → f j = .int .u8 ((l.getD j 0).toNat : Int) := by
  have hl : l.length = n := by simpa [encB] using h.1
  rcases h.2 with ⟨rfl, hz⟩ | ⟨g, cap, cur, rfl, hbg, hg, hnc, hcm, hcs, htake⟩
  · omega
  · refine ⟨g, cap, fun j => cur.getD j undef, rfl, hbg, hnc, hcm, ⟨cur, hg, by simpa using hcs, fun i hi => ?_⟩, fun j hj => ?_⟩
    · have : i < cur.size := by omega
      simp [this]
    · have := h.cells (g := g) rfl j (.int .u8 (l.getD j 0).toNat) (by simp [encB, List.getD, hl, hj])
      have e : (⟨g, 0, none⟩ : Addr).add j = ⟨g, 0 + j, none⟩ := by unfold Addr.add; split <;> simp_all
      rw [e] at this
      simp [World.cell?, hg] at this
      simp [this]
theorem bs_of_row {w : World} {g cap : Nat} {t : TypeId} {f : Nat → Value} {l : List UInt8} (h : w.rowIs g t cap (Rv.turned f l.length l.length)) (hnc : l.length ≤ cap) (hcm : cap ≤ maxLen) (hf : ∀ j, j < l.length → f j = .int .u8 ((l.getD j 0).toNat : Int)) :
    IsBs w (some ⟨g, 0, none⟩) l.length cap l.reverse := by
  refine ⟨hnc, hcm, by simp, fun e => (by cases e), fun j hj => ⟨g, 0, rfl, h.lt, ?_⟩⟩
  rw [Nat.zero_add, h.cell (by omega)]
  unfold Rv.turned
  rw [if_pos ⟨hj, .inl hj⟩, hf _ (by omega)]
  simp [List.getD, hj, show l.length - 1 - j < l.length by omega]

set_option maxHeartbeats 2000000 in
theorem number_any (n : Nat) (h0 : 0 < n) (hn : n < 2 ^ 64) (w : World) :
    Calls Try.prog 19 #[.int .u64 n] w fun e w' => e = .returned (.string ⟨(bigL n).toArray⟩) ∧ Below w.heap.size w w' := by
  obtain ⟨i0, hi, hz0, hz1, hz2⟩ := info_parts Cc.info_u8
  have HI : Hid (_ ∧ _ ∧ _ ∧ _) := Lib.hid ⟨hi, hz0, hz1, hz2⟩
  have HL : Hid ((dig n).length ≤ 8) := Lib.hid (dig_length 8 n (by simpa using hn))
  have HP : Hid (0 < (dig n).length) := Lib.hid (by rw [dig_pos h0]; simp)
  clear hi hz0 hz1 hz2
  go_enter Try.func19, Try.ntmps19
  go_wp2
  go_loopw [0, 3] (fun i v wr => ∃ (x : Nat) (l : List UInt8), x < 2 ^ 64 ∧ i = .int .u64 x ∧ Hid (l ++ dig x = dig n) ∧ Hid (wr.ownsRow w.heap.size 5 1 v l.length (encB l)) ∧ Below w.heap.size w wr) (fun i _ _ => (intOf i).toNat)
  case atStart => exact ⟨n, [], hn, rfl, Lib.hid rfl, Lib.hid (World.ownsRow_nil _ _ _ _), Below.refl _ _⟩
  case round =>
    obtain ⟨x, l, hx, rfl, HD, HO, hB⟩ := hrel
    have hsz := hB.size
    have HB := Lib.hid hB
    clear hB
    by_cases hlt : 0 < x
    · have HD' : Hid ((l ++ [UInt8.ofNat x]) ++ dig (x / 256) = dig n) := Lib.hid (by rw [← HD.out, dig_pos hlt]; simp)
      have hl8 : l.length ≤ 8 := by
        have := congrArg List.length HD.out
        have h8 := HL.out
        rw [List.length_append] at this
        omega
      have HE := Lib.hid (encB_snoc l x)
      go_wp2_with (at_builtin; refine wpList_append_own _ rfl _ _ 46 rfl w.heap.size 5 i0 (.int .u8 0) 1 1 Try.underlying46 HI.out.1 HI.out.2.1 HI.out.2.2.1 HI.out.2.2.2 rfl (by decide) _ _ _ rfl (HO.out.alloc _) ⟨wr.heap.size, 0, none⟩ 1 1 [.int .u8 (IntKind.u8.wrap (x : Int))] rfl rfl ?c1 ?c2 ?c3 ?c4 ?c5 ?_)
      case c1 => exact Bu.cell_one_new' _ _ _ _
      case c2 => intro u hu; simp at hu; subst hu; rfl
      case c3 => unfold maxLen; omega
      case c4 => omega
      case c5 => simp; omega
      intro v' w2 hown2 hgrow _
      have hlt' := HO.out.lt
      go_wp2
      go_roundw
      case rel => 
        exact ⟨x / 256, l ++ [UInt8.ofNat x], by omega, by go_num, Lib.hid HD'.out, Lib.hid (by rw [List.length_append, ← HE.out]; exact hown2), (HB.out.alloc hsz _).grown hgrow (by simp; omega) (fun g hg => (hlt' g hg).1)⟩
      case measure => simp [intOf]; omega
    · obtain rfl : x = 0 := by omega
      have hd := HD.out
      rw [dig_zero, List.append_nil] at hd
      obtain ⟨g, cap, f, rfl, hgB, hnc, hcm, hrow, hf⟩ := row_of_owns HO.out (by rw [hd]; exact HP.out)
      have HRv := Lib.hid (Rv.reverse_any g l.length cap 5 f (by rw [hd]; exact HP.out) hnc hcm wr hrow (fun j hj => ⟨_, hf j hj⟩))
      have HF := Lib.hid hf
      have HN : Hid (l = dig n) := Lib.hid hd
      clear hf hrow hd
      go_wp2_with (go_at_call 30; refine HRv.out.mono ?_; rintro e w1 ⟨rfl, hr1, hu1⟩; have hcv := conv_bs (bs_of_row hr1 hnc hcm HF.out); have HU := Lib.hid hu1; clear hr1 hu1)
      go_ret
      refine ⟨by rw [HN.out]; rfl, HU.out.below HB.out hgB⟩
end Rl
end Go.Proofs.Ytmnihiagkmdepaa
