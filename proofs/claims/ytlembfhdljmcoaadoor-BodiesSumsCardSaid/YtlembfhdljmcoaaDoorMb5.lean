/-
  The contract of the plain answers' Block: the words' row.
-/
import Derived.Test.YtlembfhdljmcoaaDoorMb2
import Derived.Laws.BitsAllLaws
import Derived.Deep.RegionHeld3
import Derived.Deep.RegionHeldLaw
import Derived.Deep.RegionLaw
import Derived.Deep.AppendLies
import Derived.Deep.DrawnRows
import Derived.Test.YtlembfhdljmcoaaDoorMb4
import Derived.Laws.StructEq
import Derived.ChangeKeysEq
import Derived.Test.YtlembfhdljmcoaaDoorMb1
import Derived.Maps.OwnSet
import Derived.DeepKeys4
import Derived.WideKeyArr2
set_option linter.unusedSimpArgs false
set_option linter.unusedVariables false
namespace Go.Proofs.YtlembfhdljmcoaaDoor
set_option maxRecDepth 20000
open Go.RowKit

namespace Sh
attribute [local go_sem ↓] Go.wp_at_zero Go.wp_at_succ
theorem info_u64 : (Tryd.prog.info? 63).map (fun i => (i.zero, i.size, i.bytes)) = some (some (.int .u64 0), 1, 8) := by kernel_rfl

/-- words as values -/
def wv (l : List Nat) : List Value := l.map fun (x : Nat) => Value.int .u64 (x : Int)
theorem wv_snoc (l : List Nat) (x : Nat) : wv (l ++ [x]) = wv l ++ [.int .u64 x] := by simp [wv]
theorem wv_get (l : List Nat) (j : Nat) (h : j < l.length) : (wv l)[j]? = some (.int .u64 (l.getD j 0 : Nat)) := by simp [wv, List.getD, h]
/-- a slice of words -/
def IsWs (w : World) (a : Option Addr) (n cap : Nat) (l : List Nat) : Prop :=
  n ≤ cap ∧ cap ≤ maxLen ∧ l.length = n ∧ (a = none → cap = 0) ∧ ∀ j, j < n → ∃ b off, a = some ⟨b, off, none⟩ ∧ b < w.heap.size ∧ w.cell? ⟨b, off + j, none⟩ = some (.int .u64 (l.getD j 0 : Nat))
theorem news_ws {w : World} {a : Option Addr} {n cap : Nat} {l : List Nat} (h : IsWs w a n cap l) : ∀ ad, a = some ad → ∀ j u, (wv l)[j]? = some u → w.cell? (ad.add j) = some u := by
  intro ad had j u hu
  have hj : j < l.length := by
    rcases Nat.lt_or_ge j l.length with h1 | h1
    · exact h1
    · rw [List.getElem?_eq_none (by simpa [wv] using h1)] at hu; cases hu
  rw [wv_get l j hj] at hu
  obtain ⟨b, off, e, _, hc⟩ := h.2.2.2.2 j (by have := h.2.2.1; omega)
  rw [had] at e
  cases e
  have e2 : (⟨b, off, none⟩ : Addr).add j = ⟨b, off + j, none⟩ := by unfold Addr.add; split <;> simp_all
  rw [e2, hc]
  exact hu
theorem IsWs.below {w w' : World} {a : Option Addr} {n cap : Nat} {l : List Nat} (h : IsWs w a n cap l) (hb : Below w.heap.size w w') : IsWs w' a n cap l := by
  refine ⟨h.1, h.2.1, h.2.2.1, h.2.2.2.1, fun j hj => ?_⟩
  obtain ⟨b, off, h1, h2, h3⟩ := h.2.2.2.2 j hj
  exact ⟨b, off, h1, Nat.lt_of_lt_of_le h2 hb.size, by rw [hb.cell (p := ⟨b, off + j, none⟩) h2]; exact h3⟩
/-- a row of eight words -/
def W8 (w : World) (b : Nat) (l : List Nat) : Prop := b < w.heap.size ∧ ∀ j, j < 8 → w.cell? ⟨b, j, none⟩ = some (.int .u64 (l.getD j 0 : Nat))
theorem W8.new (w : World) (t : TypeId) (a0 a1 a2 a3 a4 a5 a6 a7 : Nat) :
    W8 (w.alloc (.cells #[.int .u64 a0, .int .u64 a1, .int .u64 a2, .int .u64 a3, .int .u64 a4, .int .u64 a5, .int .u64 a6, .int .u64 a7] t)).drew w.heap.size [a0, a1, a2, a3, a4, a5, a6, a7] := by
  refine ⟨by simp, fun j hj => ?_⟩
  show (w.alloc _).cell? _ = _
  rw [World.cell?_alloc_mark]
  match j, hj with
  | 0, _ => rfl
  | 1, _ => rfl
  | 2, _ => rfl
  | 3, _ => rfl
  | 4, _ => rfl
  | 5, _ => rfl
  | 6, _ => rfl
  | 7, _ => rfl
/-- a row of the call's own, as a slice of words -/
theorem IsWs.ofOwn {w : World} {B : Nat} {t : TypeId} {v : Value} {n : Nat} {l : List Nat} (h : w.ownsRow B t 1 v n (wv l)) : ∃ a cap, v = .slice a n cap ∧ IsWs w a n cap l := by
  have hl : l.length = n := by simpa [wv] using h.1
  rcases h.2 with ⟨rfl, hz⟩ | ⟨g, cap, cur, rfl, hbg, hg, hnc, hcm, hcs, htake⟩
  · have e : l = [] := List.eq_nil_of_length_eq_zero (by rw [hl]; exact hz)
    subst e
    subst hz
    exact ⟨none, 0, rfl, Nat.le_refl _, Nat.zero_le _, rfl, fun _ => rfl, fun _ hj => absurd hj (Nat.not_lt_zero _)⟩
  · refine ⟨_, _, rfl, hnc, hcm, hl, fun e => (by cases e), fun j hj => ⟨g, 0, rfl, (Array.getElem?_eq_some_iff.1 hg).1, ?_⟩⟩
    have := h.cells (g := g) rfl j _ (wv_get l j (by omega))
    have e : (⟨g, 0, none⟩ : Addr).add j = ⟨g, 0 + j, none⟩ := by unfold Addr.add; split <;> simp_all
    rw [e] at this
    exact this
/-- a slice of eight words is handed back -/
def GotWs (w : World) (l : List Nat) (e : Ending) (w' : World) : Prop := ∃ a cap, e = .returned (.slice a 8 cap) ∧ IsWs w' a 8 cap l ∧ Below w.heap.size w w'

set_option maxRecDepth 100000 in
set_option maxHeartbeats 20000000 in
theorem block_any (a : Option Addr) (cap : Nat) (hs : List Nat) (s : ByteArray) (hsz : s.size = 64) (w : World) (hw : IsWs w a 8 cap hs) (hlt : ∀ x ∈ hs, x < 4294967296) :
    Calls Tryd.prog 28 #[.slice a 8 cap, .string s] w (GotWs w (blockL (byteAt s) hs)) := by
  obtain ⟨i0, hi, hz0, hz1, hz2⟩ := info_parts info_u64
  have HI : Hid (_ ∧ _ ∧ _ ∧ _) := Lib.hid ⟨hi, hz0, hz1, hz2⟩
  have HW := Lib.hid hw
  have HL := Lib.hid hlt
  have HG := Lib.hid (byteAt_lt s)
  have HQ := Lib.hid (byteAt_eq s)
  clear hw hlt hi hz0 hz1 hz2
  obtain ⟨g, hg⟩ : ∃ g, byteAt s = g := ⟨_, rfl⟩
  rw [hg]
  have HQ : Hid (∀ q (h : q < s.size), s[q].toNat = g q) := Lib.hid (by rw [← hg]; exact HQ.out)
  rw [hg] at HG
  clear hg
  go_enter Tryd.func28, Tryd.ntmps28
  go_wp2
  go_loopw [5, 6] (fun v i wr => ∃ k : Nat, k ≤ 64 ∧ i = .int .i64 k ∧ Hid (wr.ownsRow w.heap.size 63 1 v k (wv (schW g k))) ∧ Below w.heap.size w wr) (fun _ i _ => 64 - (intOf i).toNat)
  case atStart => exact ⟨0, Nat.zero_le _, rfl, Lib.hid (World.ownsRow_nil _ _ _ _), Below.refl _ _⟩
  case round =>
    obtain ⟨k, hk, rfl, HO, hB⟩ := hrel
    by_cases hlt : k < 64
    · by_cases h16 : k < 16
      · have HN : Hid (wv (schW g (k + 1)) = wv (schW g k) ++ [.int .u64 (wordP g k 4 : Nat)]) := Lib.hid (by rw [schW, wv_snoc, nextW, if_pos h16])
        have hsz := hB.size
        go_wp2
        go_loop [7, 8] (fun x kk => ∃ j : Nat, j ≤ 4 ∧ kk = .int .i64 (4 * k + j : Nat) ∧ x = .int .u64 (wordP g k j : Nat)) (fun _ kk => 4 * k + 4 - (intOf kk).toNat)
        case atStart => exact ⟨0, Nat.zero_le _, rfl, rfl⟩
        case round =>
          obtain ⟨j, hj, rfl, rfl⟩ := hrel
          obtain ⟨p, hp⟩ : ∃ p, 4 * k + j = p := ⟨_, rfl⟩
          have HP := Lib.hid (wordP_lt g HG.out k j)
          have hxl : wordP g k j < 4294967296 := Nat.lt_of_lt_of_le HP.out (Nat.pow_le_pow_right (n := 256) (by decide) hj)
          by_cases hj4 : j < 4
          · have hpl : p < 4 * k + 4 := by omega
            have hps : p < s.size := by omega
            have hq := HQ.out p hps
            have hqb := HG.out p
            have HX : Hid (wordP g k (j + 1) = 256 * wordP g k j + g p) := Lib.hid (by rw [wordP, hp])
            have hx2 : wordP g k j < 16777216 := Nat.lt_of_lt_of_le HP.out (Nat.pow_le_pow_right (n := 256) (by decide) (show j ≤ 3 by omega))
            obtain ⟨x, hx⟩ : ∃ x, wordP g k j = x := ⟨_, rfl⟩
            rw [hx] at HX hx2 ⊢
            rw [hp]
            have HPE := Lib.hid hp
            clear hx hxl HP hp
            obtain ⟨y, hy⟩ : ∃ y, s[p].toNat = y := ⟨_, rfl⟩
            have hyb : y < 256 := by omega
            go_wp2
            go_round
            case rel => exact ⟨j + 1, by omega, by have := HPE.out; go_num, by rw [HX.out, ← hq, hy]; go_num⟩
            case measure => simp [intOf]; omega
          · obtain rfl : j = 4 := by omega
            have hpe : p = 4 * k + 4 := hp.symm
            rw [hp]
            obtain ⟨x, hx⟩ : ∃ x, wordP g k 4 = x := ⟨_, rfl⟩
            rw [hx] at HN hxl ⊢
            clear hx HP hp
            go_wp2_with (at_builtin; refine wpList_append_own _ rfl _ _ 64 rfl w.heap.size 63 i0 (.int .u64 0) 1 8 Tryd.underlying64 HI.out.1 HI.out.2.1 HI.out.2.2.1 HI.out.2.2.2 rfl (by decide) _ _ _ rfl (HO.out.alloc _) ⟨wr.heap.size, 0, none⟩ 1 1 [.int .u64 x] rfl rfl ?c1 ?c2 ?c3 ?c4 ?c5 ?_)
            case c2 => first | rfl | (intro u hu; simp at hu; subst hu; rfl)
            case c3 => unfold maxLen; omega
            case c4 => omega
            case c5 => first | omega | (simp; omega)
            intro v' w2 hown2 hgrow _
            have hlt' := HO.out.lt
            go_wp2
            go_roundw
            case rel => exact ⟨k + 1, by omega, by go_num, Lib.hid (by rw [HN.out]; exact hown2), (hB.alloc hsz _).grown hgrow (by simp; omega) (fun g hg => (hlt' g hg).1)⟩
            case measure => simp [intOf]; omega
      · obtain ⟨p, rfl⟩ : ∃ p, k = p + 16 := ⟨k - 16, by omega⟩
        obtain ⟨l, hl⟩ : ∃ l, schW g (p + 16) = l := ⟨_, rfl⟩
        have hN : wv (schW g (p + 16 + 1)) = wv l ++ [.int .u64 ((l.getD p 0 + sg0 (l.getD (p + 1) 0) + l.getD (p + 9) 0 + sg1 (l.getD (p + 14) 0)) % 4294967296 : Nat)] := by
          rw [schW, wv_snoc, hl, nextW, if_neg (by omega)]
          rw [show p + 16 - 16 = p by omega, show p + 16 - 15 = p + 1 by omega, show p + 16 - 7 = p + 9 by omega, show p + 16 - 2 = p + 14 by omega]
        have hll : l.length = p + 16 := by rw [← hl]; exact schW_length g _
        have hlb : ∀ x ∈ l, x < 4294967296 := by rw [← hl]; exact schW_lt g HG.out _
        have hO := HO.out
        rw [hl] at hO
        clear HO hl
        obtain ⟨b, c, rfl, hbg, hbw⟩ := hO.form (by omega)
        have hcell : ∀ j, j < p + 16 → wr.cell? ⟨b, j, none⟩ = some (.int .u64 (l.getD j 0 : Nat)) := fun j hj => by
          have := hO.cells (g := b) rfl j _ (wv_get l j (by omega))
          have e : (⟨b, 0, none⟩ : Addr).add j = ⟨b, j, none⟩ := by unfold Addr.add; split <;> simp_all
          rw [e] at this
          exact this
        have HO := Lib.hid hO
        have c0 := hcell p (by omega)
        have c1 := hcell (p + 1) (by omega)
        have c9 := hcell (p + 9) (by omega)
        have c14 := hcell (p + 14) (by omega)
        have b0 := getD_lt hlb p
        have b1 := getD_lt hlb (p + 1)
        have b9 := getD_lt hlb (p + 9)
        have b14 := getD_lt hlb (p + 14)
        have hsz := hB.size
        obtain ⟨x0, hx0⟩ : ∃ x, l.getD p 0 = x := ⟨_, rfl⟩
        obtain ⟨x1, hx1⟩ : ∃ x, l.getD (p + 1) 0 = x := ⟨_, rfl⟩
        obtain ⟨x9, hx9⟩ : ∃ x, l.getD (p + 9) 0 = x := ⟨_, rfl⟩
        obtain ⟨x14, hx14⟩ : ∃ x, l.getD (p + 14) 0 = x := ⟨_, rfl⟩
        rw [hx0] at hN c0 b0
        rw [hx1] at hN c1 b1
        rw [hx9] at hN c9 b9
        rw [hx14] at hN c14 b14
        have HN := Lib.hid hN
        clear hN hcell hO hx0 hx1 hx9 hx14 hlb hll
        have HT1 := Lib.hid (turn_any x1 7 b1 (by omega))
        have HT2 := Lib.hid (turn_any x1 18 b1 (by omega))
        have HT3 := Lib.hid (shift_any x1 3 b1 (by omega))
        have HT4 := Lib.hid (turn_any x14 17 b14 (by omega))
        have HT5 := Lib.hid (turn_any x14 19 b14 (by omega))
        have HT6 := Lib.hid (shift_any x14 10 b14 (by omega))
        have t1 := turnN_lt 7 x1 b1
        have t2 := turnN_lt 18 x1 b1
        have t4 := turnN_lt 17 x14 b14
        have t5 := turnN_lt 19 x14 b14
        have s0b := sg0_lt x1 b1
        have s1b := sg1_lt x14 b14
        have t3 : shiftN x1 3 < 4294967296 := by rw [shiftN_eq]; exact Nat.lt_of_le_of_lt (Nat.div_le_self _ _) b1
        have t6 : shiftN x14 10 < 4294967296 := by rw [shiftN_eq]; exact Nat.lt_of_le_of_lt (Nat.div_le_self _ _) b14
        have t12 := Nat.xor_lt_two_pow (n := 32) t1 t2
        have t45 := Nat.xor_lt_two_pow (n := 32) t4 t5
        have e1 := u64_xor_nat _ _ (show turnN x1 7 < 18446744073709551616 by omega) (show turnN x1 18 < 18446744073709551616 by omega)
        have e2 := u64_xor_nat _ _ (show turnN x1 7 ^^^ turnN x1 18 < 18446744073709551616 by omega) (show shiftN x1 3 < 18446744073709551616 by omega)
        have e4 := u64_xor_nat _ _ (show turnN x14 17 < 18446744073709551616 by omega) (show turnN x14 19 < 18446744073709551616 by omega)
        have e5 := u64_xor_nat _ _ (show turnN x14 17 ^^^ turnN x14 19 < 18446744073709551616 by omega) (show shiftN x14 10 < 18446744073709551616 by omega)
        have q0 : turnN x1 7 ^^^ turnN x1 18 ^^^ shiftN x1 3 = sg0 x1 := rfl
        have q1 : turnN x14 17 ^^^ turnN x14 19 ^^^ shiftN x14 10 = sg1 x14 := rfl
        rw [q0] at e2
        rw [q1] at e5
        clear t12 t45 q0 q1 t1 t2 t3 t4 t5 t6 b1 b14
        obtain ⟨y1, hy1⟩ : ∃ y, turnN x1 7 ^^^ turnN x1 18 = y := ⟨_, rfl⟩
        obtain ⟨y4, hy4⟩ : ∃ y, turnN x14 17 ^^^ turnN x14 19 = y := ⟨_, rfl⟩
        rw [hy1] at e1 e2
        rw [hy4] at e4 e5
        clear hy1 hy4
        obtain ⟨a1, ha1⟩ : ∃ y, turnN x1 7 = y := ⟨_, rfl⟩
        obtain ⟨a2, ha2⟩ : ∃ y, turnN x1 18 = y := ⟨_, rfl⟩
        obtain ⟨a3, ha3⟩ : ∃ y, shiftN x1 3 = y := ⟨_, rfl⟩
        obtain ⟨a4, ha4⟩ : ∃ y, turnN x14 17 = y := ⟨_, rfl⟩
        obtain ⟨a5, ha5⟩ : ∃ y, turnN x14 19 = y := ⟨_, rfl⟩
        obtain ⟨a6, ha6⟩ : ∃ y, shiftN x14 10 = y := ⟨_, rfl⟩
        obtain ⟨z0, hz0⟩ : ∃ y, sg0 x1 = y := ⟨_, rfl⟩
        obtain ⟨z1, hz1⟩ : ∃ y, sg1 x14 = y := ⟨_, rfl⟩
        rw [ha1] at HT1 e1
        rw [ha2] at HT2 e1
        rw [ha3] at HT3 e2
        rw [ha4] at HT4 e4
        rw [ha5] at HT5 e4
        rw [ha6] at HT6 e5
        rw [hz0] at HN e2 s0b
        rw [hz1] at HN e5 s1b
        clear ha1 ha2 ha3 ha4 ha5 ha6 hz0 hz1
        have HLW := Lib.hid (low_any (x0 + z0 + x9 + z1) (by omega))
        go_wp2_with fail
        refine (HT1.out _).mono ?_
        rintro e w1 ⟨rfl, rfl⟩
        go_wp2_with fail
        refine (HT2.out _).mono ?_
        rintro e w1 ⟨rfl, rfl⟩
        go_wp2_with fail
        refine (HT3.out _).mono ?_
        rintro e w1 ⟨rfl, rfl⟩
        go_wp2_with fail
        refine (HT4.out _).mono ?_
        rintro e w1 ⟨rfl, rfl⟩
        go_wp2_with fail
        refine (HT5.out _).mono ?_
        rintro e w1 ⟨rfl, rfl⟩
        go_wp2_with fail
        refine (HT6.out _).mono ?_
        rintro e w1 ⟨rfl, rfl⟩
        go_wp2_with fail
        clear e1 e2 e4 e5
        obtain ⟨V, hV⟩ : ∃ V, (x0 + z0 + x9 + z1) % 4294967296 = V := ⟨_, rfl⟩
        rw [hV] at HLW HN
        clear hV
        have w0 : IntKind.i64.wrap (p : Int) = p := by rw [IntKind.wrap_i64]; omega
        have w9 : IntKind.i64.wrap ((p : Int) + 16 - 7) = (p : Int) + 9 := by rw [IntKind.wrap_i64]; omega
        have l0 : (0 : Int) ≤ (p : Int) := by omega
        have l1 : (p : Int) < (p : Int) + 16 := by omega
        have l2 : (0 : Int) ≤ (p : Int) + 9 := by omega
        have l3 : (p : Int) + 9 < (p : Int) + 16 := by omega
        have l4 : ((p : Int) + 9).toNat = p + 9 := by omega
        have v1 : IntKind.u64.wrap ((x0 : Int) + z0) = (x0 : Int) + z0 := by rw [IntKind.wrap_u64]; omega
        have v2 : IntKind.u64.wrap ((x0 : Int) + z0 + x9) = (x0 : Int) + z0 + x9 := by rw [IntKind.wrap_u64]; omega
        have v3 : IntKind.u64.wrap ((x0 : Int) + z0 + x9 + z1) = (x0 : Int) + z0 + x9 + z1 := by rw [IntKind.wrap_u64]; omega
        have hcst : ((x0 + z0 + x9 + z1 : Nat) : Int) = (x0 : Int) + z0 + x9 + z1 := by omega
        rw [hcst] at HLW
        clear hcst
        go_region_law (first
          | (go_simp; go_at_call 40; refine (HLW.out _).mono ?_; rintro e w1 ⟨rfl, rfl⟩; dsimp only)
          | (refine step_append_lies _ (by rfl) _ _ _ (by rfl) w.heap.size 63 i0 _ 1 8 Tryd.underlying64 HI.out.1 HI.out.2.1 HI.out.2.2.1 HI.out.2.2.2 rfl (by omega) _ (p + 16) _ (by rfl) ((HO.out.alloc _).drew) ⟨wr.heap.size, 0, none⟩ 1 1 [.int .u64 V] (by rfl) (by rfl) (World.news_of_block (cs := #[.int .u64 V]) (t := 63) (fr := (0, 0)) (heap_alloc_new wr _)) (by simp [Value.oneCell']) (by omega) (by unfold maxLen; omega) (by omega) (by simp; omega) (wr.heap.size + 1) (by simp) ?_; intro gg cp w2 hown2 hgrow hat hltt))
        all_goals
          go_wp2
          have hlt' := HO.out.lt
          go_roundw
          case rel => exact ⟨p + 16 + 1, by omega, by go_num, Lib.hid (by rw [HN.out]; exact hown2), (Below.drew (hB.alloc hsz _)).grown hgrow (by simp; omega) (fun g hg => (hlt' g hg).1)⟩
          case measure => simp [intOf]; omega
    · obtain rfl : k = 64 := by omega
      have hO := HO.out
      obtain ⟨b, c, rfl, hbg, hbw⟩ := hO.form (by omega)
      have hsz := hB.size
      have hwr := (HW.out.below hB).below ((Below.refl wr.heap.size wr).alloc (Nat.le_refl _) (.cells #[] 63))
      obtain ⟨hb, off, rfl, hblt, hcr⟩ := hwr.2.2.2.2 0 (by omega)
      clear hcr hblt hk hlt
      have HNW := Lib.hid (news_ws hwr)
      have HE : Hid ((wr.alloc (.cells #[] 63)).ownsRow w.heap.size 63 1 (.slice (some ⟨wr.heap.size, 0, none⟩) 0 0) 0 []) := Lib.hid ⟨rfl, .inr ⟨wr.heap.size, 0, _, rfl, hsz, heap_alloc_new wr _, Nat.le_refl _, Nat.zero_le _, by simp, by simp⟩⟩
      have HWL : Hid ((wv hs).length = 8 * 1) := Lib.hid (by have := HW.out.2.2.1; simp [wv, this])
      clear hwr hO
      go_wp2_with (at_builtin; refine wpList_append_own _ rfl _ _ 64 rfl w.heap.size 63 i0 (.int .u64 0) 1 8 Tryd.underlying64 HI.out.1 HI.out.2.1 HI.out.2.2.1 HI.out.2.2.2 rfl (by decide) _ _ _ rfl HE.out ⟨hb, off, none⟩ 8 cap (wv hs) rfl HWL.out ?d1 ?d2 ?d3 ?d4 ?d5 ?_)
      all_goals first
        | exact HNW.out _ rfl
        | (intro u hu; simp [wv] at hu; obtain ⟨_, _, rfl⟩ := hu; rfl)
        | decide
        | (unfold maxLen; omega)
        | (simp; omega)
        | skip
      intro v' w2 hown2 hgrow hnn
      clear hnn
      have HX : Hid (IsWs w2 (some ⟨hb, off, none⟩) 8 cap hs) := Lib.hid ((HW.out.below hB).below (((Below.refl wr.heap.size wr).alloc (Nat.le_refl _) _).grown hgrow (by simp) (fun g hg => by simp [Value.ownBlock] at hg; omega)))
      have hB2 : Below w.heap.size w w2 := (hB.alloc hsz _).grown hgrow (by simp; omega) (fun g hg => by simp [Value.ownBlock] at hg; omega)
      have HZ : Hid (∀ j, j < 64 → w2.cell? ⟨b, j, none⟩ = some (.int .u64 ((schW g 64).getD j 0 : Nat))) := Lib.hid (fun j hj => by
        have := (HO.out).cells (g := b) rfl j _ (wv_get (schW g 64) j (by rw [schW_length]; exact hj))
        have e : (⟨b, 0, none⟩ : Addr).add j = ⟨b, j, none⟩ := by unfold Addr.add; split <;> simp_all
        rw [e] at this
        have e2 := (((Below.refl wr.heap.size wr).alloc (Nat.le_refl _) (.cells #[] 63)).grown hgrow (by simp) (fun g hg => by simp [Value.ownBlock] at hg; omega)).cell (p := ⟨b, j, none⟩) hbw
        rw [e2]
        exact this)
      obtain ⟨b2, c2, rfl, hb2g, hb2w⟩ := hown2.form (by omega)
      have HV : Hid (W8 w2 b2 hs) := Lib.hid ⟨hb2w, fun j hj => by
        have := hown2.cells (g := b2) rfl j _ (wv_get hs j (by have := HW.out.2.2.1; omega))
        have e : (⟨b2, 0, none⟩ : Addr).add j = ⟨b2, j, none⟩ := by unfold Addr.add; split <;> simp_all
        rw [e] at this
        exact this⟩
      have hb2 : b < w2.heap.size := by have := hgrow.size; simp at this; omega
      clear HO hown2 HE hgrow HNW HWL HW hB hbg hbw hsz
      obtain ⟨ws, hws⟩ : ∃ ws, schW g 64 = ws := ⟨_, rfl⟩
      have HWL : Hid (∀ x ∈ ws, x < 4294967296) := Lib.hid (by rw [← hws]; exact schW_lt g HG.out 64)
      have HWS := sec hws
      rw [hws] at HZ
      clear hws
      go_wp2
      go_loopw [11, 12] (fun v i wx => ∃ k bb cc : Nat, k ≤ 64 ∧ i = .int .i64 k ∧ v = .slice (some ⟨bb, 0, none⟩) 8 cc ∧ Hid (W8 wx bb (runL ws hs k)) ∧ Below w2.heap.size w2 wx) (fun _ i _ => 64 - (intOf i).toNat)
      case atStart => exact ⟨0, b2, c2, by omega, rfl, rfl, HV, Below.refl _ _⟩
      case round =>
        obtain ⟨k, bb, cc, hk, rfl, rfl, HV, hBx⟩ := hrel
        by_cases hlt : k < 64
        · have hV := HV.out
          have hVl := fun j => getD_lt (runL_lt ws hs HL.out k) j
          have HR : Hid (runL ws hs (k + 1) = roundL (kN k) (ws.getD k 0) (runL ws hs k)) := Lib.hid rfl
          have cw := HZ.out k hlt
          rw [← hBx.cell (p := ⟨b, k, none⟩) hb2] at cw
          have bw := getD_lt HWL.out k
          obtain ⟨wk, hwk⟩ : ∃ x, ws.getD k 0 = x := ⟨_, rfl⟩
          rw [hwk] at cw bw HR
          clear hwk
          obtain ⟨L, hL⟩ : ∃ L, runL ws hs k = L := ⟨_, rfl⟩
          rw [hL] at hV hVl HR
          clear HV hL
          have c0 := hV.2 0 (by omega)
          have c1 := hV.2 1 (by omega)
          have c2' := hV.2 2 (by omega)
          have c3 := hV.2 3 (by omega)
          have c4 := hV.2 4 (by omega)
          have c5 := hV.2 5 (by omega)
          have c6 := hV.2 6 (by omega)
          have c7 := hV.2 7 (by omega)
          have hbb := hV.1
          have b0 := hVl 0
          have b1 := hVl 1
          have b2' := hVl 2
          have b3 := hVl 3
          have b4 := hVl 4
          have b5 := hVl 5
          have b6 := hVl 6
          have b7 := hVl 7
          have hR := HR.out
          unfold roundL at hR
          clear HR hV hVl
          obtain ⟨x0, hx0⟩ : ∃ x, L.getD 0 0 = x := ⟨_, rfl⟩
          obtain ⟨x1, hx1⟩ : ∃ x, L.getD 1 0 = x := ⟨_, rfl⟩
          obtain ⟨x2, hx2⟩ : ∃ x, L.getD 2 0 = x := ⟨_, rfl⟩
          obtain ⟨x3, hx3⟩ : ∃ x, L.getD 3 0 = x := ⟨_, rfl⟩
          obtain ⟨x4, hx4⟩ : ∃ x, L.getD 4 0 = x := ⟨_, rfl⟩
          obtain ⟨x5, hx5⟩ : ∃ x, L.getD 5 0 = x := ⟨_, rfl⟩
          obtain ⟨x6, hx6⟩ : ∃ x, L.getD 6 0 = x := ⟨_, rfl⟩
          obtain ⟨x7, hx7⟩ : ∃ x, L.getD 7 0 = x := ⟨_, rfl⟩
          rw [hx0, hx1, hx2, hx3, hx4, hx5, hx6, hx7] at hR
          rw [hx0] at c0 b0
          rw [hx1] at c1 b1
          rw [hx2] at c2' b2'
          rw [hx3] at c3 b3
          rw [hx4] at c4 b4
          rw [hx5] at c5 b5
          rw [hx6] at c6 b6
          rw [hx7] at c7 b7
          have HR := sec hR
          clear hR hx0 hx1 hx2 hx3 hx4 hx5 hx6 hx7
          clear hk hb2g hb2w
          go_wp2_with fail
          have hpk := pickN_lt x4 x5 x6 b4
          have hmo := mostN_lt x0 x1 x2 b0 b1
          obtain ⟨m4, hm4⟩ : ∃ m, 4294967295 - x4 = m := ⟨_, rfl⟩
          have v4 : IntKind.u64.wrap (4294967295 - (x4 : Int)) = (m4 : Int) := by rw [IntKind.wrap_u64]; omega
          have bm : m4 < 4294967296 := by omega
          have A1 := u64_and_nat x4 x5 (by omega) (by omega)
          have A2 := u64_and_nat m4 x6 (by omega) (by omega)
          have A3 := u64_or_nat (x4 &&& x5) (m4 &&& x6) (Nat.lt_of_le_of_lt Nat.and_le_left (by omega)) (Nat.lt_of_le_of_lt Nat.and_le_left (by omega))
          have hp : (x4 &&& x5) ||| (m4 &&& x6) = pickN x4 x5 x6 := by unfold pickN; rw [hm4]
          rw [hp] at A3
          have A4 := u64_and_nat x0 x1 (by omega) (by omega)
          have A5 := u64_and_nat x0 x2 (by omega) (by omega)
          have A6 := u64_or_nat (x0 &&& x1) (x0 &&& x2) (Nat.lt_of_le_of_lt Nat.and_le_left (by omega)) (Nat.lt_of_le_of_lt Nat.and_le_left (by omega))
          have A7 := u64_and_nat x1 x2 (by omega) (by omega)
          have A8 := u64_or_nat ((x0 &&& x1) ||| (x0 &&& x2)) (x1 &&& x2) (Nat.lt_trans (Nat.or_lt_two_pow (n := 32) (Nat.lt_of_le_of_lt Nat.and_le_left (by omega)) (Nat.lt_of_le_of_lt Nat.and_le_left (by omega))) (by decide)) (Nat.lt_of_le_of_lt Nat.and_le_left (by omega))
          have hq : (x0 &&& x1) ||| (x0 &&& x2) ||| (x1 &&& x2) = mostN x0 x1 x2 := rfl
          rw [hq] at A8
          obtain ⟨pk, hpke⟩ : ∃ p, pickN x4 x5 x6 = p := ⟨_, rfl⟩
          obtain ⟨mo, hmoe⟩ : ∃ p, mostN x0 x1 x2 = p := ⟨_, rfl⟩
          rw [hpke] at hpk A3
          rw [hmoe] at hmo A8
          have HPK := sec hpke
          have HMO := sec hmoe
          have HV4 := Lib.hid v4
          clear hp hq hpke hmoe hm4
          generalize x4 &&& x5 = p1 at A1 A3
          generalize m4 &&& x6 = p2 at A2 A3
          generalize (x0 &&& x1) ||| (x0 &&& x2) = q3 at A6 A8
          generalize x0 &&& x1 = q1 at A4 A6
          generalize x0 &&& x2 = q2 at A5 A6
          generalize x1 &&& x2 = q5 at A7 A8
          go_quiet (fail)
          obtain ⟨n1, rfl⟩ : ∃ n, n = nq := ⟨_, rfl⟩
          go_wp2_with fail
          go_quiet (fail)
          obtain ⟨n2, rfl⟩ : ∃ n, n = nq := ⟨_, rfl⟩
          go_wp2_with fail
          clear A1 A2 A3 A4 A5 A6 A7 A8 v4
          have hBy := below_drewN (below_drewN hBx n1) n2
          have hbby : bb < ((wr.drewN n1).drewN n2).heap.size := hbb
          have d0 : ((wr.drewN n1).drewN n2).cell? ⟨bb, 0, none⟩ = _ := c0
          have d1 : ((wr.drewN n1).drewN n2).cell? ⟨bb, 1, none⟩ = _ := c1
          have d2 : ((wr.drewN n1).drewN n2).cell? ⟨bb, 2, none⟩ = _ := c2'
          have d3 : ((wr.drewN n1).drewN n2).cell? ⟨bb, 3, none⟩ = _ := c3
          have d4 : ((wr.drewN n1).drewN n2).cell? ⟨bb, 4, none⟩ = _ := c4
          have d5 : ((wr.drewN n1).drewN n2).cell? ⟨bb, 5, none⟩ = _ := c5
          have d6 : ((wr.drewN n1).drewN n2).cell? ⟨bb, 6, none⟩ = _ := c6
          have d7 : ((wr.drewN n1).drewN n2).cell? ⟨bb, 7, none⟩ = _ := c7
          have dw : ((wr.drewN n1).drewN n2).cell? ⟨b, k, none⟩ = _ := cw
          clear c0 c1 c2' c3 c4 c5 c6 c7 cw hBx hbb
          generalize (wr.drewN n1).drewN n2 = wy at hBy hbby d0 d1 d2 d3 d4 d5 d6 d7 dw ⊢
          have HD : Hid (wy.cell? ⟨bb, 0, none⟩ = _ ∧ wy.cell? ⟨bb, 1, none⟩ = _ ∧ wy.cell? ⟨bb, 2, none⟩ = _ ∧ wy.cell? ⟨bb, 3, none⟩ = _ ∧ wy.cell? ⟨bb, 4, none⟩ = _ ∧ wy.cell? ⟨bb, 5, none⟩ = _ ∧ wy.cell? ⟨bb, 6, none⟩ = _) := Lib.hid ⟨d0, d1, d2, d3, d4, d5, d6⟩
          clear d0 d1 d2 d3 d4 d5 d6
          have hBS : (wy.cell? ⟨bb, 7, none⟩ = some (.int .u64 (x7 : Nat)) ∧ wy.cell? ⟨b, k, none⟩ = some (.int .u64 (wk : Nat))) ∧ Below wy.heap.size wy wy := ⟨⟨d7, dw⟩, Below.refl _ _⟩
          have hby : b < wy.heap.size := Nat.lt_of_lt_of_le hb2 hBy.size
          have HKp : Hid (∀ wa wb : World, ((wa.cell? ⟨bb, 7, none⟩ = some (.int .u64 (x7 : Nat)) ∧ wa.cell? ⟨b, k, none⟩ = some (.int .u64 (wk : Nat))) ∧ Below wy.heap.size wy wa) → Below wa.heap.size wa wb → ((wb.cell? ⟨bb, 7, none⟩ = some (.int .u64 (x7 : Nat)) ∧ wb.cell? ⟨b, k, none⟩ = some (.int .u64 (wk : Nat))) ∧ Below wy.heap.size wy wb)) := Lib.hid (fun wa wb h1 h2 => by
            have h3 := h1.2.trans (h2.mono h1.2.size)
            exact ⟨⟨(h3.cell (p := ⟨bb, 7, none⟩) hbby).trans hBS.1.1, (h3.cell (p := ⟨b, k, none⟩) hby).trans hBS.1.2⟩, h3⟩)
          clear hBS
          have HT1 := Lib.hid (turn_c x4 6 6 rfl b4 (by omega))
          have HT2 := Lib.hid (turn_c x4 11 11 rfl b4 (by omega))
          have HT3 := Lib.hid (turn_c x4 25 25 rfl b4 (by omega))
          have HKK := Lib.hid (k_any k hlt)
          have tB := bs1_lt x4 b4
          have e1 := u64_xor_nat (turnN x4 6) (turnN x4 11) (Nat.lt_trans (turnN_lt 6 x4 b4) (by decide)) (Nat.lt_trans (turnN_lt 11 x4 b4) (by decide))
          have e2 := u64_xor_nat (turnN x4 6 ^^^ turnN x4 11) (turnN x4 25) (Nat.lt_trans (Nat.xor_lt_two_pow (n := 32) (turnN_lt 6 x4 b4) (turnN_lt 11 x4 b4)) (by decide)) (Nat.lt_trans (turnN_lt 25 x4 b4) (by decide))
          have hq : turnN x4 6 ^^^ turnN x4 11 ^^^ turnN x4 25 = bs1 x4 := rfl
          rw [hq] at e2
          have kb := kN_lt k
          have HX1 : Sec (xN (kN k) wk x4 x5 x6 x7 = (x7 + bs1 x4 + pk + kN k + wk) % 4294967296) := sec (by unfold xN; rw [HPK.out])
          obtain ⟨B1, hB1⟩ : ∃ y, bs1 x4 = y := ⟨_, rfl⟩
          obtain ⟨kk, hkk⟩ : ∃ y, kN k = y := ⟨_, rfl⟩
          rw [hB1] at e2 tB
          rw [hkk] at kb HKK
          rw [hB1, hkk] at HX1
          have HB1 := sec hB1
          have HKN := sec hkk
          clear hB1 hkk hq
          generalize turnN x4 6 ^^^ turnN x4 11 = y1 at e1 e2
          generalize turnN x4 6 = a1 at HT1 e1
          generalize turnN x4 11 = a2 at HT2 e1
          generalize turnN x4 25 = a3 at HT3 e2
          have HLW := Lib.hid (low_any (x7 + B1 + pk + kk + wk) (by omega))
          have hcst : ((x7 + B1 + pk + kk + wk : Nat) : Int) = (x7 : Int) + B1 + pk + kk + wk := by omega
          rw [hcst] at HLW
          have v1 : IntKind.u64.wrap ((x7 : Int) + B1) = (x7 : Int) + B1 := by rw [IntKind.wrap_u64]; omega
          have v2 : IntKind.u64.wrap ((x7 : Int) + B1 + pk) = (x7 : Int) + B1 + pk := by rw [IntKind.wrap_u64]; omega
          have v3 : IntKind.u64.wrap ((x7 : Int) + B1 + pk + kk) = (x7 : Int) + B1 + pk + kk := by rw [IntKind.wrap_u64]; omega
          have v4 : IntKind.u64.wrap ((x7 : Int) + B1 + pk + kk + wk) = (x7 : Int) + B1 + pk + kk + wk := by rw [IntKind.wrap_u64]; omega
          have hXb : (x7 + B1 + pk + kk + wk) % 4294967296 < 4294967296 := Nat.mod_lt _ (by omega)
          obtain ⟨X, hX⟩ : ∃ X, (x7 + B1 + pk + kk + wk) % 4294967296 = X := ⟨_, rfl⟩
          rw [hX] at HLW hXb HX1
          clear hcst hX
          have l0 : (0 : Int) ≤ (k : Int) := by omega
          have l1 : (k : Int) < 64 := by omega
          go_region_held3 (fun w' => (w'.cell? ⟨bb, 7, none⟩ = some (.int .u64 (x7 : Nat)) ∧ w'.cell? ⟨b, k, none⟩ = some (.int .u64 (wk : Nat))) ∧ Below wy.heap.size wy w') (first | exact ⟨⟨d7, dw⟩, (Below.refl _ _).drew⟩ | exact HKp.out _ _ (by assumption) (by assumption) | assumption)
            (first
              | (go_at_call 38; (with_reducible refine (HT1.out _).mono ?_); rintro e w1 ⟨rfl, rfl⟩)
              | (go_at_call 38; (with_reducible refine (HT2.out _).mono ?_); rintro e w1 ⟨rfl, rfl⟩)
              | (go_at_call 38; (with_reducible refine (HT3.out _).mono ?_); rintro e w1 ⟨rfl, rfl⟩)
              | (go_at_call 41; refine (HKK.out _).mono ?_; rintro e w1 ⟨rfl, hb1⟩)
              | (go_at_call 40; refine (HLW.out _).mono ?_; rintro e w1 ⟨rfl, rfl⟩))
          clear v1 v2 v3 v4 e1 e2 l0 l1 HT1 HT2 HT3 HKK HLW hb1
          rename_i hBq
          have hS := hBq.2
          clear hBq
          have HCe : Hid (∀ wa : World, Below wy.heap.size wy wa → wa.cell? ⟨bb, 0, none⟩ = some (.int .u64 (x0 : Nat)) ∧ wa.cell? ⟨bb, 1, none⟩ = some (.int .u64 (x1 : Nat)) ∧ wa.cell? ⟨bb, 2, none⟩ = some (.int .u64 (x2 : Nat)) ∧ wa.cell? ⟨bb, 3, none⟩ = some (.int .u64 (x3 : Nat)) ∧ wa.cell? ⟨bb, 4, none⟩ = some (.int .u64 (x4 : Nat)) ∧ wa.cell? ⟨bb, 5, none⟩ = some (.int .u64 (x5 : Nat)) ∧ wa.cell? ⟨bb, 6, none⟩ = some (.int .u64 (x6 : Nat))) := Lib.hid (fun wa h => ⟨(h.cell (p := ⟨bb, 0, none⟩) hbby).trans HD.out.1, (h.cell (p := ⟨bb, 1, none⟩) hbby).trans HD.out.2.1, (h.cell (p := ⟨bb, 2, none⟩) hbby).trans HD.out.2.2.1, (h.cell (p := ⟨bb, 3, none⟩) hbby).trans HD.out.2.2.2.1, (h.cell (p := ⟨bb, 4, none⟩) hbby).trans HD.out.2.2.2.2.1, (h.cell (p := ⟨bb, 5, none⟩) hbby).trans HD.out.2.2.2.2.2.1, (h.cell (p := ⟨bb, 6, none⟩) hbby).trans HD.out.2.2.2.2.2.2⟩)
          clear d7 dw HKp
          have HT1 := Lib.hid (turn_c x0 2 2 rfl b0 (by omega))
          have HT2 := Lib.hid (turn_c x0 13 13 rfl b0 (by omega))
          have HT3 := Lib.hid (turn_c x0 22 22 rfl b0 (by omega))
          have tB0 := bs0_lt x0 b0
          have e1 := u64_xor_nat (turnN x0 2) (turnN x0 13) (Nat.lt_trans (turnN_lt 2 x0 b0) (by decide)) (Nat.lt_trans (turnN_lt 13 x0 b0) (by decide))
          have e2 := u64_xor_nat (turnN x0 2 ^^^ turnN x0 13) (turnN x0 22) (Nat.lt_trans (Nat.xor_lt_two_pow (n := 32) (turnN_lt 2 x0 b0) (turnN_lt 13 x0 b0)) (by decide)) (Nat.lt_trans (turnN_lt 22 x0 b0) (by decide))
          have hq : turnN x0 2 ^^^ turnN x0 13 ^^^ turnN x0 22 = bs0 x0 := rfl
          rw [hq] at e2
          have HY1 : Sec (yN x0 x1 x2 = (bs0 x0 + mo) % 4294967296) := sec (by unfold yN; rw [HMO.out])
          obtain ⟨B0, hB0⟩ : ∃ y, bs0 x0 = y := ⟨_, rfl⟩
          rw [hB0] at e2 tB0 HY1
          clear hB0 hq
          generalize turnN x0 2 ^^^ turnN x0 13 = z1 at e1 e2
          generalize turnN x0 2 = a4 at HT1 e1
          generalize turnN x0 13 = a5 at HT2 e1
          generalize turnN x0 22 = a6 at HT3 e2
          have HLW := Lib.hid (low_any (B0 + mo) (by omega))
          have hcst : ((B0 + mo : Nat) : Int) = (B0 : Int) + mo := by omega
          rw [hcst] at HLW
          have hYb : (B0 + mo) % 4294967296 < 4294967296 := Nat.mod_lt _ (by omega)
          obtain ⟨Y, hY⟩ : ∃ X, (B0 + mo) % 4294967296 = X := ⟨_, rfl⟩
          rw [hY] at HLW hYb HY1
          clear hcst hY
          go_wp2_with fail
          (with_reducible refine (HT1.out _).mono ?_)
          rintro e w3 ⟨rfl, rfl⟩
          go_wp2_with fail
          (with_reducible refine (HT2.out _).mono ?_)
          rintro e w3 ⟨rfl, rfl⟩
          go_wp2_with fail
          (with_reducible refine (HT3.out _).mono ?_)
          rintro e w3 ⟨rfl, rfl⟩
          go_wp2_with fail
          (with_reducible refine (HLW.out _).mono ?_)
          rintro e w3 ⟨rfl, rfl⟩
          go_wp2_with fail
          clear HT1 HT2 HT3 HLW e1 e2
          have hcst : ((X + Y : Nat) : Int) = (X : Int) + Y := by omega
          have hcst2 : ((x3 + X : Nat) : Int) = (x3 : Int) + X := by omega
          have HL1 := Lib.hid (low_any (X + Y) (by omega))
          have HL2 := Lib.hid (low_any (x3 + X) (by omega))
          rw [hcst] at HL1
          rw [hcst2] at HL2
          have v1 : IntKind.u64.wrap ((X : Int) + Y) = (X : Int) + Y := by rw [IntKind.wrap_u64]; omega
          have v2 : IntKind.u64.wrap ((x3 : Int) + X) = (x3 : Int) + X := by rw [IntKind.wrap_u64]; omega
          have HRR : Sec (runL ws hs (k + 1) = [(X + Y) % 4294967296, x0, x1, x2, (x3 + X) % 4294967296, x4, x5, x6]) := sec (by rw [HR.out, HKN.out, HX1.out, HY1.out])
          obtain ⟨N0, hN0⟩ : ∃ X', (X + Y) % 4294967296 = X' := ⟨_, rfl⟩
          obtain ⟨N4, hN4⟩ : ∃ X', (x3 + X) % 4294967296 = X' := ⟨_, rfl⟩
          rw [hN0] at HL1 HRR
          rw [hN4] at HL2 HRR
          clear hcst hcst2 hN0 hN4 HR HX1 HY1 HMO HPK HKN HB1
          have HS0 := Lib.hid (HCe.out _ hS.drew)
          have HKa : Hid (∀ (wa : World) (o : Obj), ((wa.cell? ⟨bb, 0, none⟩ = some (.int .u64 (x0 : Nat)) ∧ wa.cell? ⟨bb, 1, none⟩ = some (.int .u64 (x1 : Nat)) ∧ wa.cell? ⟨bb, 2, none⟩ = some (.int .u64 (x2 : Nat)) ∧ wa.cell? ⟨bb, 3, none⟩ = some (.int .u64 (x3 : Nat)) ∧ wa.cell? ⟨bb, 4, none⟩ = some (.int .u64 (x4 : Nat)) ∧ wa.cell? ⟨bb, 5, none⟩ = some (.int .u64 (x5 : Nat)) ∧ wa.cell? ⟨bb, 6, none⟩ = some (.int .u64 (x6 : Nat))) ∧ Below wy.heap.size wy wa) → ((wa.alloc o).cell? ⟨bb, 0, none⟩ = some (.int .u64 (x0 : Nat)) ∧ (wa.alloc o).cell? ⟨bb, 1, none⟩ = some (.int .u64 (x1 : Nat)) ∧ (wa.alloc o).cell? ⟨bb, 2, none⟩ = some (.int .u64 (x2 : Nat)) ∧ (wa.alloc o).cell? ⟨bb, 3, none⟩ = some (.int .u64 (x3 : Nat)) ∧ (wa.alloc o).cell? ⟨bb, 4, none⟩ = some (.int .u64 (x4 : Nat)) ∧ (wa.alloc o).cell? ⟨bb, 5, none⟩ = some (.int .u64 (x5 : Nat)) ∧ (wa.alloc o).cell? ⟨bb, 6, none⟩ = some (.int .u64 (x6 : Nat))) ∧ Below wy.heap.size wy (wa.alloc o)) := Lib.hid (fun wa o h => ⟨HCe.out _ (h.2.alloc h.2.size o), h.2.alloc h.2.size o⟩)
          go_region_held3 (fun w' => (w'.cell? ⟨bb, 0, none⟩ = some (.int .u64 (x0 : Nat)) ∧ w'.cell? ⟨bb, 1, none⟩ = some (.int .u64 (x1 : Nat)) ∧ w'.cell? ⟨bb, 2, none⟩ = some (.int .u64 (x2 : Nat)) ∧ w'.cell? ⟨bb, 3, none⟩ = some (.int .u64 (x3 : Nat)) ∧ w'.cell? ⟨bb, 4, none⟩ = some (.int .u64 (x4 : Nat)) ∧ w'.cell? ⟨bb, 5, none⟩ = some (.int .u64 (x5 : Nat)) ∧ w'.cell? ⟨bb, 6, none⟩ = some (.int .u64 (x6 : Nat))) ∧ Below wy.heap.size wy w') (first | assumption | exact ⟨HS0.out, hS.drew⟩ | exact HKa.out _ _ (by assumption))
            (first
              | (go_at_call 40; (with_reducible refine (HL1.out _).mono ?_); rintro e w4 ⟨rfl, rfl⟩)
              | (go_at_call 40; (with_reducible refine (HL2.out _).mono ?_); rintro e w4 ⟨rfl, rfl⟩))
          rename_i hfin
          have hfb := hfin.2
          clear hfin HS0 HKa HCe v1 v2 HL1 HL2 HD
          have HW8 := Lib.hid (W8.new w1 63 N0 x0 x1 x2 N4 x4 x5 x6)
          go_wp2
          go_roundw
          case rel => exact ⟨k + 1, w1.heap.size, 8, by omega, by go_num, rfl, Lib.hid (by rw [HRR.out]; exact HW8.out), hBy.trans (hfb.mono hBy.size)⟩
          case measure => simp [intOf]; omega
        · have hk64 : k = 64 := by omega
          rw [hk64] at HV
          clear hk64
          have HLV := Lib.hid (runL_lt ws hs HL.out 64)
          have HBK : Sec (blockL g hs = addK hs (runL ws hs 64) 8) := sec (by unfold blockL; rw [HWS.out])
          obtain ⟨L, hL⟩ : ∃ L, runL ws hs 64 = L := ⟨_, rfl⟩
          rw [hL] at HV HLV HBK
          have HX2 := Lib.hid (HX.out.below hBx)
          have HB3 := Lib.hid (hB2.trans (hBx.mono hB2.size))
          clear hL hk hBx hB2 HZ HWL HWS hb2g hb2w hb2 HX
          go_wp2
          clear hlt
          go_loopw [19, 20] (fun v i wz => ∃ q : Nat, q ≤ 8 ∧ i = .int .i64 q ∧ Hid (wz.ownsRow wr.heap.size 63 1 v q (wv (addK hs L q))) ∧ Below wr.heap.size wr wz) (fun _ i _ => 8 - (intOf i).toNat)
          case atStart => exact ⟨0, by omega, rfl, Lib.hid (World.ownsRow_nil _ _ _ _), Below.refl _ _⟩
          case round =>
            obtain ⟨q, hq, rfl, HO, hBz⟩ := hrel
            have hBw := HB3.out
            by_cases hlt : q < 8
            · have HN : Sec (wv (addK hs L (q + 1)) = wv (addK hs L q) ++ [.int .u64 ((hs.getD q 0 + L.getD q 0) % 4294967296 : Nat)]) := sec (by rw [addK_snoc, wv_snoc])
              obtain ⟨hb', off', he, hbl, hcl⟩ := HX2.out.2.2.2.2 q hlt
              cases he
              have ca := (hBz.cell (p := ⟨hb, off + q, none⟩) hbl).trans hcl
              have cb := (hBz.cell (p := ⟨bb, q, none⟩) HV.out.1).trans (HV.out.2 q hlt)
              have ba := getD_lt HL.out q
              have bb' := getD_lt HLV.out q
              obtain ⟨x, hx⟩ : ∃ x, hs.getD q 0 = x := ⟨_, rfl⟩
              obtain ⟨y, hy⟩ : ∃ x, L.getD q 0 = x := ⟨_, rfl⟩
              rw [hx] at ca ba HN
              rw [hy] at cb bb' HN
              clear hx hy hcl hbl
              have HLW := Lib.hid (low_any (x + y) (by omega))
              have hcst : ((x + y : Nat) : Int) = (x : Int) + y := by omega
              rw [hcst] at HLW
              have v1 : IntKind.u64.wrap ((x : Int) + y) = (x : Int) + y := by rw [IntKind.wrap_u64]; omega
              obtain ⟨V, hV⟩ : ∃ V, (x + y) % 4294967296 = V := ⟨_, rfl⟩
              rw [hV] at HLW HN
              clear hcst hV
              have hsz := hBz.size
              have l0 : (0 : Int) ≤ (q : Int) := by omega
              have l1 : (q : Int) < 8 := by omega
              go_wp2_with fail
              go_region_law (first
                | (go_simp; go_at_call 40; refine (HLW.out _).mono ?_; rintro e w1 ⟨rfl, rfl⟩; dsimp only)
                | (refine step_append_lies _ (by rfl) _ _ _ (by rfl) _ 63 i0 _ 1 8 Tryd.underlying64 HI.out.1 HI.out.2.1 HI.out.2.2.1 HI.out.2.2.2 rfl (by omega) _ q _ (by rfl) ((HO.out.alloc _).drew) ⟨wr.heap.size, 0, none⟩ 1 1 [.int .u64 V] (by rfl) (by rfl) (World.news_of_block (cs := #[.int .u64 V]) (t := 63) (fr := (0, 0)) (heap_alloc_new wr _)) (by simp [Value.oneCell']) (by omega) (by unfold maxLen; omega) (by omega) (by simp; omega) (wr.heap.size + 1) (by simp) ?_; intro gg cp w2 hown2 hgrow hat hltt))
              all_goals
                go_wp2
                have hlt' := HO.out.lt
                go_roundw
                case rel => exact ⟨q + 1, by omega, by go_num, Lib.hid (by rw [HN.out]; exact hown2), (Below.drew (hBz.alloc hsz _)).grown hgrow (by simp; omega) (fun g hg => (hlt' g hg).1)⟩
                case measure => simp [intOf]; omega
            · obtain rfl : q = 8 := by omega
              have HF : Sec (wr.ownsRow _ 63 1 u19 8 (wv (blockL g hs))) := sec (by rw [HBK.out]; exact HO.out)
              clear HO HX2 HV HB3
              go_wp2
              go_ret
              obtain ⟨a', cap', rfl, hw'⟩ := IsWs.ofOwn HF.out
              exact ⟨a', cap', rfl, hw', hBw.trans (hBz.mono hBw.size)⟩
end Sh
end Go.Proofs.YtlembfhdljmcoaaDoor

/-
  Contracts of the plain answers' Of and Sum.
-/
namespace Go.Proofs.YtlembfhdljmcoaaDoor
set_option maxRecDepth 20000
open Go.RowKit

namespace Sh
theorem IsWs.new (w : World) (l : List Nat) (hl : l.length = 8) (t : TypeId) : IsWs (w.alloc (.cells (wc l) t)) (some ⟨w.heap.size, 0, none⟩) 8 8 l :=
  ⟨by omega, by unfold maxLen; omega, hl, fun e => (by cases e), fun j hj => ⟨w.heap.size, 0, rfl, by simp, by rw [Nat.zero_add]; exact wc_cell w l t j (by omega)⟩⟩
theorem byteAt_cut (t : ByteArray) (k q : Nat) (hq : q < 64) : byteAt (t.extract (64 * k) (64 * k + 64)) q = byteK t.data.toList k q := by
  unfold byteAt byteK
  have e : (t.extract (64 * k) (64 * k + 64)).data.toList = (t.data.toList.drop (64 * k)).take 64 := by
    simp only [ByteArray.data_extract, Array.toList_extract, List.extract_eq_take_drop]
    rw [show 64 * k + 64 - 64 * k = 64 by omega]
  rw [e, List.getD, List.getD, List.getElem?_take_of_lt hq, List.getElem?_drop]
theorem of_block (t : ByteArray) (k : Nat) (h : List Nat) : blockL (byteAt (t.extract (64 * k) (64 * k + 64))) h = blockL (byteK t.data.toList k) h :=
  blockL_congr (fun q hq => byteAt_cut t k q hq) h

set_option maxRecDepth 100000 in
set_option maxHeartbeats 4000000 in
theorem rof_any (l : List UInt8) (hl : l.length ≤ 900000) (w : World) :
    Calls Tryd.prog 15 #[.string ⟨l.toArray⟩] w fun e w' => e = .returned (.string ⟨(sumL l).toArray⟩) ∧ Below w.heap.size w w' := by
  have hlen := fillL_length l
  have hmod := fillL_mod l
  have hz : zerosN l.length < 64 := Nat.mod_lt _ (by omega)
  have HW0 := Lib.hid (IsWs.new w Sh.start rfl 63)
  have HFi := Lib.hid (fill_any l (by omega))
  obtain ⟨t, ht⟩ : ∃ t, (⟨(fillL l).toArray⟩ : ByteArray) = t := ⟨_, rfl⟩
  have htd : t.data.toList = fillL l := by rw [← ht]
  have hts : t.size = (fillL l).length := by rw [← ht, ba_size]
  rw [ht] at HFi
  have HS := sec (show outK (hashK (fillL l) ((fillL l).length / 64)) 32 = sumL l from rfl)
  rw [← htd] at HS
  rw [show t.data.toList.length = t.size by simp] at HS
  have hb : t.size ≤ 900100 := by omega
  rw [← hts] at hmod
  have HT := sec htd
  have HL := Lib.hid (fun k => hashK_length t.data.toList k)
  have HTl := Lib.hid (fun k => hashK_lt t.data.toList k)
  clear ht htd hts hlen hz hl
  obtain ⟨s, hs⟩ : ∃ s, (⟨l.toArray⟩ : ByteArray) = s := ⟨_, rfl⟩
  rw [hs] at HFi ⊢
  clear hs
  go_enter Tryd.func15, Tryd.ntmps15
  go_wp2_with (first | (refine wpList_run (o := ⟨some 10, _, _, _, _, _⟩) rfl (.slice (some ⟨w.heap.size, 0, none⟩) 8 8) (w.alloc (.cells (wc Sh.start) 63)) (by kernel_rfl) ?_))
  refine (HFi.out _).mono ?_
  rintro e w1 ⟨rfl, hb1⟩
  have HW1 := Lib.hid (HW0.out.below hb1)
  have HB1 := Lib.hid (((Below.refl w.heap.size w).alloc (Nat.le_refl _) (.cells (wc Sh.start) 63)).trans (hb1.mono (by simp)))
  clear hb1 HFi HW0
  go_wp2
  go_loopw [3, 5] (fun v i wr => ∃ (k : Nat) (a : Option Addr) (cap : Nat), 64 * k ≤ t.size ∧ i = .int .i64 (64 * k : Nat) ∧ v = .slice a 8 cap ∧ Hid (IsWs wr a 8 cap (hashK t.data.toList k)) ∧ Hid (Below w.heap.size w wr)) (fun _ i _ => t.size - (intOf i).toNat)
  case atStart => exact ⟨0, _, _, by omega, rfl, rfl, HW1, HB1⟩
  case round =>
    clear HW1 HB1
    obtain ⟨k, a, cap, hk, rfl, rfl, HW, HB⟩ := hrel
    by_cases hlt : 64 * k < t.size
    · have hk64 : 64 * k + 64 ≤ t.size := by omega
      have hBl := block_any a cap (hashK t.data.toList k) (t.extract (64 * k) (64 * k + 64)) (by simp; omega) wr HW.out (HTl.out k)
      rw [of_block t k] at hBl
      have HBl := Lib.hid hBl
      obtain ⟨p, hp⟩ : ∃ p, 64 * k = p := ⟨_, rfl⟩
      have HBl : Hid (Calls Tryd.prog 28 #[.slice a 8 cap, .string (t.extract p (p + 64))] wr (GotWs wr (blockL (byteK t.data.toList k) (hashK t.data.toList k)))) := Lib.hid (by rw [← hp]; exact HBl.out)
      rw [hp] at hk64 hlt hk ⊢
      have HP := Lib.hid hp
      clear hBl hp
      go_wp2_with fail
      refine HBl.out.mono ?_
      rintro e w2 ⟨a2, cap2, rfl, hw2, hb2⟩
      have HW2 := Lib.hid hw2
      have HB2 := Lib.hid (HB.out.trans (hb2.mono HB.out.size))
      clear hw2 hb2 HBl
      go_wp2
      go_roundw
      case rel => exact ⟨k + 1, a2, cap2, by have := HP.out; omega, by have := HP.out; go_num, rfl, HW2, HB2⟩
      case measure => have := HP.out; simp [intOf]; omega
    · have hke : k = t.size / 64 := by omega
      have HSk : Sec (outK (hashK t.data.toList k) 32 = sumL l) := sec (by rw [hke]; exact HS.out)
      have hbd := HTl.out k
      obtain ⟨M, hM⟩ : ∃ M, hashK t.data.toList k = M := ⟨_, rfl⟩
      rw [hM] at HW HSk hbd
      have HMb := Lib.hid (fun j => getD_lt hbd j)
      clear hbd hM hke HS HL HTl HT
      obtain ⟨b, off, rfl, hlb, hx0⟩ := HW.out.2.2.2.2 0 (by omega)
      have HC : Hid (∀ j, j < 8 → wr.cell? ⟨b, off + j, none⟩ = some (.int .u64 (M.getD j 0 : Nat))) := Lib.hid (fun j hj => by
        obtain ⟨b', off', e, _, hc⟩ := HW.out.2.2.2.2 j hj
        cases e
        exact hc)
      obtain ⟨wo, rfl⟩ : ∃ wo : World, wo = wr := ⟨_, rfl⟩
      have hlb' : Hid (b < wo.heap.size) := Lib.hid hlb
      clear hx0 hlb
      go_wp2
      clear hlt hk hmod hb
      go_loopw [6, 7, 8, 9] (fun o i _ _ wx => ∃ q : Nat, q ≤ 32 ∧ i = .int .i64 q ∧ o = .string ⟨(outK M q).toArray⟩ ∧ Hid (Below wo.heap.size wo wx)) (fun _ i _ _ _ => 32 - (intOf i).toNat)
      case atStart => exact ⟨0, by omega, rfl, rfl, Lib.hid (Below.refl _ _)⟩
      case round =>
        obtain ⟨q, hq, rfl, rfl, HBx⟩ := hrel
        by_cases hlt : q < 32
        · have hq4 : q / 4 < 8 := by omega
          have hc := (HBx.out.cell (p := ⟨b, off + q / 4, none⟩) hlb'.out).trans (HC.out (q / 4) hq4)
          have hxb := HMb.out (q / 4)
          have HSn := sec (outK_snoc M q)
          have HWb := sec (show wByte M q = M.getD (q / 4) 0 / 256 ^ (3 - q % 4) % 256 from rfl)
          obtain ⟨x, hx⟩ : ∃ x, M.getD (q / 4) 0 = x := ⟨_, rfl⟩
          rw [hx] at hc hxb HWb
          clear hx
          obtain ⟨r, hr⟩ : ∃ r, q % 4 = r := ⟨_, rfl⟩
          have hr4 : r < 4 := by omega
          have hqr : (q : Int) % 4 = r := by omega
          rw [hr] at HWb
          clear hr
          have hbs := HBx.out.size
          have hol : (⟨(outK M q).toArray⟩ : ByteArray).size ≤ 32 := by rw [ba_size, outK_length]; exact hq
          have HCat : Hid ((⟨(outK M q).toArray⟩ : ByteArray) ++ ⟨#[UInt8.ofNat (wByte M q)]⟩ = ⟨(outK M (q + 1)).toArray⟩) := Lib.hid (by rw [HSn.out]; exact ba_cat _ [_])
          obtain ⟨O, hO⟩ : ∃ O, (⟨(outK M q).toArray⟩ : ByteArray) = O := ⟨_, rfl⟩
          rw [hO] at hol HCat ⊢
          clear hO
          have HQR := Lib.hid hqr
          go_wp2
          clear hqr hc
          go_loop [8, 9] (fun v kk => ∃ d : Nat, r + d ≤ 3 ∧ kk = .int .i64 (r + d : Nat) ∧ v = .int .u64 (x / 256 ^ d : Nat)) (fun _ kk => 3 - (intOf kk).toNat)
          case atStart => exact ⟨0, by omega, by rw [HQR.out]; rfl, by simp⟩
          case round =>
            obtain ⟨d, hd, rfl, rfl⟩ := hrel
            have hD : Hid (x / 256 ^ (d + 1) = x / 256 ^ d / 256) := Lib.hid (by rw [Nat.pow_succ, Nat.div_div_eq_div_mul])
            have hyb : x / 256 ^ d < 4294967296 := Nat.lt_of_le_of_lt (Nat.div_le_self _ _) hxb
            obtain ⟨p, hp⟩ : ∃ p, r + d = p := ⟨_, rfl⟩
            rw [hp] at hd ⊢
            have HP := Lib.hid hp
            by_cases hl3 : p < 3
            · obtain ⟨y, hy⟩ : ∃ y, x / 256 ^ d = y := ⟨_, rfl⟩
              rw [hy] at hD hyb ⊢
              clear hy hp
              go_wp2
              go_round
              case rel => exact ⟨d + 1, by have := HP.out; omega, by have := HP.out; go_num, by rw [hD.out]; go_num⟩
              case measure => simp [intOf]; omega
            · have hd3 : 3 - r = d := by omega
              rw [hd3] at HWb
              obtain ⟨y, hy⟩ : ∃ y, x / 256 ^ d = y := ⟨_, rfl⟩
              rw [hy] at hyb HWb ⊢
              clear hy hp hd3 hD
              have hcv := conv_one ((y : Int) % 256) (y % 256) (by omega) (by omega) wr
              rw [← HWb.out] at hcv
              obtain ⟨C, hC⟩ : ∃ C, (⟨#[UInt8.ofNat (wByte M q)]⟩ : ByteArray) = C := ⟨_, rfl⟩
              have hCs : C.size ≤ 1 := by rw [← hC]; exact Nat.le_refl _
              rw [hC] at hcv HCat
              clear hC
              go_wp2
              go_roundw
              case rel => exact ⟨q + 1, by omega, by go_num, by rw [HCat.out], Lib.hid (HBx.out.alloc hbs _)⟩
              case measure => simp [intOf]; omega
        · obtain rfl : q = 32 := by omega
          have hB2 := HB.out.trans (HBx.out.mono HB.out.size)
          clear HBx
          go_wp2
          go_ret
          exact ⟨by rw [← HSk.out]; rfl, hB2⟩
end Sh
end Go.Proofs.YtlembfhdljmcoaaDoor

/-
  The plain answers' Sum; sums are equal to themselves.
-/
namespace Go.Proofs.YtlembfhdljmcoaaDoor
set_option maxRecDepth 20000
open Go.RowKit

namespace Sm
open Sh
theorem info_u8 : (Tryd.prog.info? 5).map (fun i => (i.zero, i.size, i.bytes)) = some (some (.int .u8 0), 1, 1) := by kernel_rfl
theorem part_byte (k : List UInt8) (i : Nat) (hi : i < k.length) (w : World) : (part 5 (kc k) i).run Tryd.prog w = .ok (.int .u8 (k.getD i 0).toNat) w := by
  have hagg : (isAgg 5).run Tryd.prog w = .ok false w := by kernel_rfl
  have hg : (kc k)[i]? = some (.int .u8 (k.getD i 0).toNat) := by simp [kc, List.getD, hi]
  unfold part
  rw [Sem.run_bind, hagg]
  simp [hg]
theorem items_same (k : List UInt8) (w : World) (d : Nat) : ∀ is : List Nat, (∀ i ∈ is, i < k.length) → (Op.eqItems (d + 1) 5 1 (kc k) (kc k) is).run Tryd.prog w = .ok true w
  | [], _ => by simp [Op.eqItems]
  | i :: is, h => by
    have ih := items_same k w d is (fun j hj => h j (List.mem_cons_of_mem _ hj))
    have hp := part_byte k i (h i (List.mem_cons_self ..)) w
    unfold Op.eqItems
    rw [Nat.mul_one]
    simp only [Sem.run_bind, hp, Result.andThen_ok, run_equalIn_int w d 5 .u8 .u8 _ _ Tryd.underlying5, beq_self_eq_true, Bool.not_true, Bool.false_eq_true, if_false]
    exact ih
theorem cells_u8 : Tryd.prog.cellsOf 5 = 1 := by kernel_rfl
theorem equal_sum (k : List UInt8) (hk : k.length = 32) (w : World) : (Op.equalIn 10000 43 (.agg (kc k)) (.agg (kc k))).run Tryd.prog w = .ok true w := by
  obtain ⟨i0, hi, _⟩ := info_parts info_u8
  rw [show (10000 : Nat) = 9999 + 1 from rfl, run_equalIn_array w 9999 (kc k) (kc k) Tryd.underlying43 hi, cells_u8]
  exact items_same k w 9998 (List.range 32) (fun i h => by rw [hk]; simpa using h)
theorem eql_sum (k : List UInt8) (hk : k.length = 32) (w : World) : (binOp .eql 43 (.agg (kc k)) (.agg (kc k))).run Tryd.prog w = .ok (.bool true) w := by
  rw [run_eql_struct, equal_sum k hk w]
  rfl
theorem neq_sum (k : List UInt8) (hk : k.length = 32) (w : World) : (binOp .neq 43 (.agg (kc k)) (.agg (kc k))).run Tryd.prog w = .ok (.bool false) w := by
  rw [run_neq_struct, equal_sum k hk w]
  rfl
theorem guard_sum : Tryd.prog.eqGuardType Tryd.prog.depth 43 = false := by kernel_rfl
theorem run_neq_op (ev : Operand → Value) (o : Oper) (k : List UInt8) (hk : k.length = 32) (w : World) (h : ∃ x y, o.op = .binOp .neq 43 x y 43 ∧ ev x = .agg (kc k) ∧ ev y = .agg (kc k)) :
    (execOp ev o).run Tryd.prog w = .ok (.value (.bool false)) w := by
  obtain ⟨x, y, ho, hx, hy⟩ := h
  unfold execOp
  simp [ho, hx, hy, run_eqGuard_agg, neq_sum k hk w, Result.andThen]
theorem run_eql_op (ev : Operand → Value) (o : Oper) (k : List UInt8) (hk : k.length = 32) (w : World) (h : ∃ x y, o.op = .binOp .eql 43 x y 43 ∧ ev x = .agg (kc k) ∧ ev y = .agg (kc k)) :
    (execOp ev o).run Tryd.prog w = .ok (.value (.bool true)) w := by
  obtain ⟨x, y, ho, hx, hy⟩ := h
  unfold execOp
  simp [ho, hx, hy, run_eqGuard_agg, eql_sum k hk w, Result.andThen]
theorem run_load_sum (ev : Operand → Value) (o : Oper) (w : World) (g : Nat) (l : List UInt8) (hl : l.length = 32) (h : ∃ x, o.op = .load 43 x ∧ ev x = .pointer (some ⟨g, 0, none⟩)) (hg : Rg.Own w g (kc l) 43) :
    (execOp ev o).run Tryd.prog w = .ok (.value (.agg (kc l))) w := by
  obtain ⟨x, ho, hx⟩ := h
  have hr := run_loadVar_row (P := Tryd.prog) w g 43 43 (kc l) (0, 0) _ hg.2 Tryd.underlying43 rfl (info_kc l hl)
  unfold execOp
  simp only [ho, hx, Instr.loadAt, Instr.sureAddr, Sem.run_bind, Sem.run_pure, Result.andThen_ok, hr]

set_option maxHeartbeats 2000000 in
theorem rsum_any (l : List UInt8) (hl : l.length ≤ 900000) (w : World) :
    Calls Tryd.prog 21 #[.string ⟨l.toArray⟩] w fun e w' => e = .returned (.agg (kc (sumL l))) ∧ Below w.heap.size w w' := by
  have HOf := Lib.hid (rof_any l hl (w.alloc (.cells (kc zk) 43)))
  obtain ⟨s, hs⟩ : ∃ s, (⟨l.toArray⟩ : ByteArray) = s := ⟨_, rfl⟩
  have hKl := sumL_length l
  obtain ⟨k, hk⟩ : ∃ k, sumL l = k := ⟨_, rfl⟩
  rw [hs, hk] at HOf
  rw [hs, hk]
  rw [hk] at hKl
  clear hs hk hl
  have hts : (⟨k.toArray⟩ : ByteArray).size = 32 := by rw [ba_size]; exact hKl
  have HQ := Lib.hid (byteAt_eq ⟨k.toArray⟩)
  have HBy : Hid (∀ j, byteAt ⟨k.toArray⟩ j = (k.getD j 0).toNat) := Lib.hid (fun j => by unfold byteAt; simp)
  have HKl := Lib.hid hKl
  obtain ⟨t, ht⟩ : ∃ t, (⟨k.toArray⟩ : ByteArray) = t := ⟨_, rfl⟩
  rw [ht] at HOf hts HQ HBy
  clear ht hKl
  go_enter Tryd.func21, Tryd.ntmps21
  go_wp2_with (refine wpList_run (o := ⟨some 2, _, _, _, _, _⟩) rfl _ _ (run_alloc_sum _ _ rfl _ w.heap.size rfl) ?_)
  refine HOf.out.mono ?_
  rintro e w1 ⟨rfl, hb1⟩
  have HB1 := Lib.hid (((Below.refl w.heap.size w).alloc (Nat.le_refl _) (.cells (kc zk) 43)).trans (hb1.mono (by simp)))
  have HO1 := Lib.hid ((Rg.Own.new w (kc zk) 43).below hb1)
  clear hb1 HOf
  obtain ⟨m, hm⟩ : ∃ m, w1.heap.size = m := ⟨_, rfl⟩
  have hlm : w.heap.size < m := by rw [← hm]; exact HO1.out.1
  have HO2 : Hid (Rg.Own (w1.alloc (.cells (kc zk) 43)) w.heap.size (kc zk) 43) := Lib.hid (HO1.out.below ((Below.refl _ _).alloc (Nat.le_refl _) _))
  have HB2 : Hid (Below w.heap.size w (w1.alloc (.cells (kc zk) 43))) := Lib.hid (HB1.out.alloc (by omega) _)
  have HR0 : Hid ((w1.alloc (.cells (kc zk) 43)).rowIs m 43 32 (fun j => .int .u8 (if j < 0 then (k.getD j 0).toNat else 0 : Nat))) := Lib.hid ((zk_row (by rw [← hm]; exact heap_alloc_new _ _)).congr (fun j _ => by rw [if_neg (by omega)]; rfl))
  go_wp2_with (refine wpList_run (o := ⟨some 4, _, _, _, _, _⟩) rfl _ _ (run_alloc_sum _ _ rfl _ m hm) ?_)
  go_loopw [5] (fun i wr => ∃ q : Nat, q ≤ 32 ∧ i = .int .i64 q ∧ Hid (wr.rowIs m 43 32 (fun j => .int .u8 (if j < q then (k.getD j 0).toNat else 0 : Nat))) ∧ Hid (Rg.Own wr w.heap.size (kc zk) 43) ∧ Hid (Below w.heap.size w wr)) (fun i _ => 32 - (intOf i).toNat)
  case atStart => exact ⟨0, by omega, rfl, HR0, HO2, HB2⟩
  case round =>
    clear HR0 HO2 HB2 HB1 HO1 hm
    obtain ⟨q, hq, rfl, HR, HO, HB⟩ := hrel
    by_cases hlt : q < 32
    · have q0 := HQ.out q (by omega)
      rw [HBy.out] at q0
      have hc := HR.out.cell (i := q) hlt
      have hf := HR.out.frozen q
      have HS := Lib.hid ((HR.out.set q (.int .u8 ((k.getD q 0).toNat : Nat))).congr (g := fun j => .int .u8 (if j < q + 1 then (k.getD j 0).toNat else 0 : Nat)) (fun j _ => by
        by_cases e : j = q
        · subst e; simp
        · have : j < q + 1 ↔ j < q := by omega
          simp [e, this]))
      have Q0 := sec q0
      clear q0
      go_wp2
      go_roundw
      case rel => exact ⟨q + 1, by omega, by go_num, by rw [Q0.out]; exact HS, Lib.hid ⟨by simpa using HO.out.1, (heap_setCell_other _ _ _ _ (by simp; omega)).trans HO.out.2⟩, Lib.hid (HB.out.setCell (p := ⟨m, q, none⟩) (by simp; omega) _)⟩
      case measure => simp [intOf]; omega
    · obtain rfl : q = 32 := by omega
      have HF : Hid (wr.heap[m]? = some (.cells (kc k) 43 (0, 0))) := Lib.hid (kc_row _ HR.out HKl.out (fun j hj => by rw [if_pos hj]))
      clear HR
      go_wp2_with (first | (refine wpList_load_row rfl _ _ rfl m rfl 43 (kc k) (0, 0) _ HF.out Tryd.underlying43 rfl (info_kc k HKl.out) ?_) | (refine wpList_store_rowTo rfl 43 _ _ rfl rfl _ (kc k) rfl rfl 43 (kc zk) HO.out.2 (info_kc k HKl.out) (by rw [kc_size, kc_size, HKl.out]; rfl) (kc_one _) ?_))
      exact bodyPost_ret (results_cell_row rfl _ _ w.heap.size 43 (kc k) (0, 0) _ rfl (setRow_heap _ _ _ _ _ _ HO.out.2) Tryd.underlying43 rfl (info_kc k HKl.out)) rfl ⟨rfl, below_row HB.out (Nat.le_refl _) _⟩
end Sm
end Go.Proofs.YtlembfhdljmcoaaDoor

/-
  Sums as a map's keys; which texts have been seen.
-/
namespace Go.Proofs.YtlembfhdljmcoaaDoor
set_option maxRecDepth 20000
open Go.RowKit Go.WideMaps

namespace Rf
open Sh Sm Ni
theorem laidOut : laidOutB Tryd.prog = true := by kernel_rfl
theorem cells_sum : Tryd.prog.cellsOf 43 = 32 := by kernel_rfl
theorem cells_u8' : Tryd.prog.cellsOf 5 = 1 := by kernel_rfl
theorem key_sum : Tryd.prog.keyType 43 = true := by kernel_rfl
theorem types_size : ∃ m, Tryd.prog.types.size = m + 1 := ⟨_, rfl⟩
theorem wide_sum : (match Tryd.prog.underlying 43 with | some (.array _ _) | some (.struct _) => true | _ => false) = true := by rw [Tryd.underlying43]
theorem lawSum : Maps.Keyed Tryd.prog 43 := .of_law (deep_law_laid laidOut (m := 2) (by omega) (of_decide_eq_true (by kernel_rfl)) (by kernel_rfl) wide_sum)
/-- what a sum reads as -/
def lits (x : List UInt8) : List Lit := x.map fun b => .int .u8 (b.toNat : Int)
def kl (x : List UInt8) : Lit := .string (keyBytes (lits x))
theorem wf_byte (b : UInt8) : (Lit.int .u8 (b.toNat : Int)).wf = true := by
  have := b.toNat_lt
  have h1 : IntKind.u8.min = 0 := rfl
  have h2 : IntKind.u8.max = 255 := rfl
  unfold Lit.wf
  simp [h1, h2]
  omega
theorem lits_mapM (D : Nat) (x : List UInt8) : ∀ (is : List Nat), (∀ i ∈ is, i < x.length) →
    (is.mapM fun i => Tryd.prog.keyLits (D + 1) 5 (((kc x).toList.drop (i * 1)).take 1)) = some (is.map fun i => [Lit.int .u8 ((x.getD i 0).toNat : Int)])
  | [], _ => rfl
  | i :: is, h => by
    have hi := h i List.mem_cons_self
    have e : ((kc x).toList.drop (i * 1)).take 1 = [Value.int .u8 ((x.getD i 0).toNat : Int)] := by
      rw [Nat.mul_one]
      have : (kc x).toList = x.map fun b => Value.int .u8 (b.toNat : Int) := by simp [kc]
      rw [this, ← List.map_drop, List.drop_eq_getElem_cons hi, List.map_cons, List.take_succ_cons, List.take_zero]
      simp [List.getD, hi]
    rw [List.mapM_cons, e, lits_mapM D x is (fun j hj => h j (List.mem_cons_of_mem _ hj))]
    have h1 : Tryd.prog.keyLits (D + 1) 5 [Value.int .u8 ((x.getD i 0).toNat : Int)] = some [Lit.int .u8 ((x.getD i 0).toNat : Int)] := by
      unfold Program.keyLits
      simp only [Tryd.underlying5]
      rw [if_pos ⟨trivial, wf_byte _⟩]
    rw [h1]
    rfl
theorem keyOf_sum (x : List UInt8) (hx : x.length = 32) : keyOf Tryd.prog 43 (.agg (kc x)) = some (kl x) := by
  obtain ⟨m, hm⟩ := types_size
  have hn : (kc x).size = 32 := by simp [kc, hx]
  obtain ⟨m', hm'⟩ : ∃ m', m = m' + 1 := ⟨Tryd.prog.types.size - 2, by have : 2 ≤ Tryd.prog.types.size := of_decide_eq_true (by kernel_rfl); omega⟩
  subst hm'
  have hl := lits_mapM (m' + 1) x (List.range 32) (fun i hi => by rw [hx]; exact List.mem_range.1 hi)
  unfold keyOf
  simp only [Tryd.underlying43]
  rw [if_pos (by simp [key_sum, Value.formed, Tryd.underlying43, cells_sum, hn]), hm]
  unfold Program.keyLits
  simp only [Tryd.underlying43, Value.cells, cells_sum, cells_u8']
  rw [if_pos (by simpa using hn), hl]
  have hfl : ((List.range 32).map fun i => [Lit.int .u8 ((x.getD i 0).toNat : Int)]).flatten = lits x := by
    have h1 : ∀ (f : Nat → Lit) (l : List Nat), (l.map fun i => [f i]).flatten = l.map f := fun f l => by
      induction l with
      | nil => rfl
      | cons a r ih => rw [List.map_cons, List.flatten_cons, ih]; rfl
    rw [h1 fun i => Lit.int .u8 ((x.getD i 0).toNat : Int)]
    apply List.ext_getElem
    · simp [lits, hx]
    · intro i h1 h2
      simp at h1
      simp [lits, List.getD, hx, h1]
  rw [Option.map_some, Option.map_some, hfl]
  rfl
theorem kc_inj {x y : List UInt8} (h : kc x = kc y) : x = y := by
  have h1 : x.map (fun b => Value.int .u8 (b.toNat : Int)) = y.map fun b => Value.int .u8 (b.toNat : Int) := by
    have := congrArg Array.toList h
    simpa [kc] using this
  have h2 : ∀ (x y : List UInt8), x.map (fun b => Value.int .u8 (b.toNat : Int)) = y.map (fun b => Value.int .u8 (b.toNat : Int)) → x = y := by
    intro x
    induction x with
    | nil => intro y h; cases y with
      | nil => rfl
      | cons b y => cases h
    | cons a x ih => intro y h; cases y with
      | nil => cases h
      | cons b y =>
        rw [List.map_cons, List.map_cons] at h
        obtain ⟨e1, e2⟩ := List.cons.inj h
        have e3 : (a.toNat : Int) = b.toNat := by simpa using e1
        rw [UInt8.toNat_inj.1 (show a.toNat = b.toNat by omega), ih y e2]
  exact h2 x y h1
theorem kl_inj {x y : List UInt8} (hx : x.length = 32) (hy : y.length = 32) (h : kl x = kl y) : x = y := by
  have h1 := keyOf_sum x hx
  have h2 := keyOf_sum y hy
  rw [h] at h1
  have := lawSum.inj h1 h2
  simp at this
  exact kc_inj this
theorem kl_key {x : List UInt8} (hx : x.length = 32) : WideAt.IsKeyLit (kl x) := lawSum.key (keyOf_sum x hx)

/-- a text's sum -/
def sumB (s : ByteArray) : List UInt8 := sumL s.data.toList
theorem sumB_length (s : ByteArray) : (sumB s).length = 32 := sumL_length _
/-- which of the first i texts have been seen -/
def Seen (xs : List ByteArray) (i : Nat) (D : DataW Unit) : Prop :=
  Maps.IsMap D ∧ (∀ j, j < i → Maps.has D (kl (sumB (xs.getD j eB))) = true) ∧
    (∀ x : List UInt8, x.length = 32 → Maps.has D (kl x) = true → ∃ j, j < i ∧ sumB (xs.getD j eB) = x ∧ ∀ z, D.atKey (kl x) z = .lit (.int .i64 (j : Nat))) ∧
    ∀ j k, j < i → k < i → sumB (xs.getD j eB) = sumB (xs.getD k eB) → xs.getD j eB = xs.getD k eB
theorem seen_none (xs : List ByteArray) : Seen xs 0 (.map []) := by
  refine ⟨Maps.isMap_empty, fun j hj => absurd hj (Nat.not_lt_zero _), fun x _ h => ?_, fun j k hj => absurd hj (Nat.not_lt_zero _)⟩
  rw [Maps.has_eq] at h
  simp at h
/-- a new one -/
theorem Seen.new {xs : List ByteArray} {i : Nat} {D : DataW Unit} (h : Seen xs i D) (hn : Maps.has D (kl (sumB (xs.getD i eB))) = false) :
    Seen xs (i + 1) (D.put (kl (sumB (xs.getD i eB))) (.lit (.int .i64 (i : Nat)))) := by
  obtain ⟨h1, h2, h3, h4⟩ := h
  have hk := kl_key (sumB_length (xs.getD i eB))
  have hap : ∀ j, j < i → sumB (xs.getD j eB) ≠ sumB (xs.getD i eB) := fun j hj e => by
    have := h2 j hj
    rw [e, hn] at this
    cases this
  refine ⟨h1.put _ _, fun j hj => ?_, fun x hx hh => ?_, fun j k hj hk e => ?_⟩
  · by_cases hji : j = i
    · subst hji
      exact Maps.has_put_same h1 hk _
    · have hlt : j < i := by omega
      rw [Maps.has_put_other (fun e => hap j hlt (kl_inj (sumB_length _) (sumB_length _) e)) _]
      exact h2 j hlt
  · by_cases hxi : x = sumB (xs.getD i eB)
    · subst hxi
      exact ⟨i, by omega, rfl, fun z => Maps.atKey_put_same h1 hk _ z⟩
    · have hne : kl x ≠ kl (sumB (xs.getD i eB)) := fun e => hxi (kl_inj hx (sumB_length _) e)
      rw [Maps.has_put_other hne] at hh
      obtain ⟨j, hj, e, hz⟩ := h3 x hx hh
      exact ⟨j, by omega, e, fun z => by rw [Maps.atKey_put_other hne]; exact hz z⟩
  · by_cases hji : j = i
    · by_cases hki : k = i
      · rw [hji, hki]
      · subst hji
        exact absurd e.symm (hap k (by omega))
    · by_cases hki : k = i
      · subst hki
        exact absurd e (hap j (by omega))
      · exact h4 j k (by omega) (by omega) e
/-- one that is like the first -/
theorem Seen.again {xs : List ByteArray} {i j : Nat} {D : DataW Unit} (h : Seen xs i D) (hj : j < i) (hs : sumB (xs.getD j eB) = sumB (xs.getD i eB)) (he : xs.getD j eB = xs.getD i eB) : Seen xs (i + 1) D := by
  obtain ⟨h1, h2, h3, h4⟩ := h
  refine ⟨h1, fun k hk => ?_, fun x hx hh => ?_, fun a b ha hb e => ?_⟩
  · by_cases hki : k = i
    · subst hki
      rw [← hs]; exact h2 j hj
    · exact h2 k (by omega)
  · obtain ⟨k, hk, e⟩ := h3 x hx hh
    exact ⟨k, by omega, e⟩
  · by_cases hai : a = i
    · by_cases hbi : b = i
      · rw [hai, hbi]
      · subst hai
        rw [← he]
        exact h4 j b hj (by omega) (by rw [hs]; exact e)
    · by_cases hbi : b = i
      · subst hbi
        rw [← he]
        exact h4 a j (by omega) hj (by rw [hs]; exact e)
      · exact h4 a b (by omega) (by omega) e
/-- what Clash may tell -/
def ClashOk (xs : List ByteArray) (a b : Nat) (c : Bool) : Prop :=
  if c then a < b ∧ b < xs.length ∧ sumB (xs.getD a eB) = sumB (xs.getD b eB) ∧ xs.getD a eB ≠ xs.getD b eB
  else a = 0 ∧ b = 0 ∧ ∀ j k, j < xs.length → k < xs.length → sumB (xs.getD j eB) = sumB (xs.getD k eB) → xs.getD j eB = xs.getD k eB
end Rf
end Go.Proofs.YtlembfhdljmcoaaDoor

/-
  Layer 12: what a store of bodies tells, by rows; slices of ints; sums of texts.
-/
namespace Go.Proofs.YtlembfhdljmcoaaDoor
set_option maxRecDepth 20000
open Go.RowKit

namespace Bd
open Rf Sm
/-- a text's sum, as a text -/
def sumT (s : ByteArray) : ByteArray := ⟨(sumB s).toArray⟩
theorem rofT (s : ByteArray) (hs : s.size ≤ 900000) (w : World) : Calls Tryd.prog 15 #[.string s] w fun e w' => e = .returned (.string (sumT s)) ∧ Below w.heap.size w w' := by
  have h := Sh.rof_any s.data.toList (by simpa using hs) w
  simpa [sumT, sumB] using h
theorem rsumT (s : ByteArray) (hs : s.size ≤ 900000) (w : World) : Calls Tryd.prog 21 #[.string s] w fun e w' => e = .returned (.agg (kc (sumB s))) ∧ Below w.heap.size w w' := by
  have h := rsum_any s.data.toList (by simpa using hs) w
  simpa [sumB] using h
/-- the slice's elements are these ints -/
def IsIs (w : World) (a : Option Addr) (n cap : Nat) (xs : List Int) : Prop :=
  n ≤ cap ∧ cap ≤ maxLen ∧ xs.length = n ∧ ∀ j, j < n → ∃ b off, a = some ⟨b, off, none⟩ ∧ b < w.heap.size ∧ w.cell? ⟨b, off + j, none⟩ = some (.int .i64 (xs.getD j 0))
theorem IsIs.len {w : World} {a : Option Addr} {n cap : Nat} {xs : List Int} (h : IsIs w a n cap xs) : xs.length = n := h.2.2.1
theorem IsIs.at' {w : World} {a : Option Addr} {n cap : Nat} {xs : List Int} (h : IsIs w a n cap xs) (j : Nat) (hj : j < n) : ∃ b off, a = some ⟨b, off, none⟩ ∧ b < w.heap.size ∧ w.cell? ⟨b, off + j, none⟩ = some (.int .i64 (xs.getD j 0)) := h.2.2.2 j hj
theorem IsIs.below {w w' : World} {a : Option Addr} {n cap : Nat} {xs : List Int} (h : IsIs w a n cap xs) (hb : Below w.heap.size w w') : IsIs w' a n cap xs := by
  refine ⟨h.1, h.2.1, h.2.2.1, fun j hj => ?_⟩
  obtain ⟨b, off, h1, h2, h3⟩ := h.2.2.2 j hj
  exact ⟨b, off, h1, Nat.lt_of_lt_of_le h2 hb.size, (hb.cell (p := ⟨b, off + j, none⟩) h2).trans h3⟩
/-- how many bytes texts have -/
def sizeT (T : List ByteArray) : Nat := (T.map ByteArray.size).sum
theorem sizeT_step {T : List ByteArray} {k : Nat} (h : k < T.length) : sizeT (T.take (k + 1)) = sizeT (T.take k) + (T.getD k eB).size := by
  have e : T.getD k eB = T[k] := by simp [List.getD, h]
  unfold sizeT
  rw [List.take_succ_eq_append_getElem h, List.map_append, List.sum_append, e]
  simp
theorem sizeT_le {T : List ByteArray} (hT : ∀ t ∈ T, t.size ≤ 200) : ∀ k, sizeT (T.take k) ≤ 200 * k
  | 0 => by simp [sizeT]
  | k + 1 => by
    by_cases h : k < T.length
    · rw [sizeT_step h]
      have := sizeT_le hT k
      have : (T.getD k eB).size ≤ 200 := hT _ (by rw [List.getD_eq_getElem?_getD, List.getElem?_eq_getElem h]; exact List.getElem_mem _)
      omega
    · have := sizeT_le hT k
      rw [List.take_of_length_le (by omega)]
      rw [List.take_of_length_le (by omega)] at this
      omega
/-- what a pointer's store tells, in each world that meets J: what these rows tell -/
structure Reads (p : Option Addr) (J : World → Prop) (l : List Rw) : Prop where
  below : ∀ w w', J w → Below w.heap.size w w' → J w'
  get : ∀ w, J w → ∀ t ∈ textsR l, Calls Tryd.prog 18 #[.pointer p, .agg (kc (sumB t))] w fun e w' => e = .returned (.tuple #[.string t, .bool true]) ∧ Below w.heap.size w w'
  find : ∀ w, J w → ∀ t ∈ textsR l, Calls Tryd.prog 19 #[.pointer p, .string (sumT t)] w fun e w' => e = .returned (.tuple #[.string t, .bool true]) ∧ Below w.heap.size w w'
  ask : ∀ w, J w → ∀ r : ByteArray, r.size ≤ 100 → Calls Tryd.prog 19 #[.pointer p, .string r] w fun e w' => ∃ s b, e = .returned (.tuple #[.string s, .bool b]) ∧ Below w.heap.size w w' ∧
    (0 < r.size → r.size < 32 → b = true ∧ s = r) ∧ (b = true → 0 < r.size ∧ r.size ≤ 32) ∧ (b = true → ¬ r.size < 32 → sumT s = r ∧ s.size ≤ 200)
  size : ∀ w, J w → Calls Tryd.prog 20 #[.pointer p] w fun e w' => e = .returned (.tuple #[.int .i64 (textsR l).length, .int .i64 (sizeT (textsR l))]) ∧ Below w.heap.size w w'
  epochs : ∀ w, J w → Calls Tryd.prog 22 #[.pointer p] w fun e w' => ∃ a n c E, e = .returned (.slice a n c) ∧ IsIs w' a n c E ∧ Below w.heap.size w w' ∧ E.Pairwise (· < ·) ∧ ∀ x, x ∈ E ↔ ∃ r ∈ l, r.e = x
end Bd
end Go.Proofs.YtlembfhdljmcoaaDoor
