/-
  Contracts of rlp.Count, rlp.Same and the plain answer's Same.
-/
import Derived.Test.YtmnihiagkmdepaaRa
namespace Go.Proofs.Ytmnihiagkmdepaa
open Go.RowKit

namespace It
/-- how many items -/
def size : It → Nat
  | .mk _ _ xs => 1 + (xs.map size).sum
termination_by x => SizeOf.sizeOf x
decreasing_by
  rename_i h
  have := List.sizeOf_lt_of_mem h
  simp
  omega
theorem size_mk (l : Bool) (s : ByteArray) (xs : List It) : (It.mk l s xs).size = 1 + (xs.map size).sum := by rw [size]
end It

namespace Rl
theorem wrap_step (a b c : Int) (h : b = wrap64 a) : wrap64 (b + wrap64 c) = wrap64 (a + c) := by
  subst h
  simp only [wrap64]
  omega
theorem sum_take (xs : List It) (q : Nat) (x : It) (h : xs[q]? = some x) : (((xs.take (q + 1)).map It.size).sum : Nat) = ((xs.take q).map It.size).sum + x.size := by
  rw [List.take_add_one, h]
  simp

set_option maxHeartbeats 2000000 in
theorem count_any (x : It) : ∀ (w : World) (v : Value), IsIt w x v →
    Calls Try.prog 18 #[v] w fun e w' => e = .returned (.int .i64 (wrap64 x.size)) ∧ Below w.heap.size w w' := by
  induction x using It.ind with
  | h l s xs ih =>
    rintro w v ⟨a, n, cap, rfl, h⟩
    have hm := h.max
    have hnc := h.le
    unfold maxLen at hm
    have H := Lib.hid h
    clear h
    unfold itV
    dsimp only [It.l, It.s, It.xs] at *
    go_enter Try.func18, Try.ntmps18
    go_wp2
    go_loopw [3, 9] (fun k i wr => ∃ (q : Nat) (k' : Int), q ≤ n ∧ i = .int .i64 q ∧ k = .int .i64 k' ∧ Hid (k' = wrap64 (1 + ((xs.take q).map It.size).sum)) ∧ Below (w.heap.size + 1) (w.alloc (.cells #[.bool l, .string s, .slice a n cap] 24)) wr) (fun _ i _ => n - (intOf i).toNat)
    case atStart => exact ⟨0, 1, Nat.zero_le _, rfl, rfl, Lib.hid (by simp [wrap64]), Below.refl _ _⟩
    case round =>
      obtain ⟨q, k', hq, rfl, rfl, HK, hB⟩ := hrel
      have HB := Lib.hid hB
      clear hB
      by_cases hlt : q < n
      · obtain ⟨x, b, off, A, N, C, hx, rfl, hb, hL, hI⟩ := H.out.at' q hlt
        have hBw := of_al HB.out
        obtain ⟨e0, e1, e2⟩ := hL.stays hBw hb
        have HI := Lib.hid (fun w1 (hw : Below wr.heap.size wr w1) => ih x (List.mem_of_getElem? hx) w1 _ ⟨A, N, C, rfl, hI.stays (hBw.trans (hw.mono hBw.size))⟩)
        have HS := Lib.hid (wrap_step _ _ (x.size : Int) HK.out)
        have HX := Lib.hid (sum_take xs q x hx)
        unfold itV at HI
        clear hL hI hBw ih hx
        go_wp2_with fail
        refine (HI.out _ ((Below.refl _ _).alloc (Nat.le_refl _) _)).mono ?_
        rintro e w1 ⟨rfl, hb1⟩
        go_wp2
        go_roundw
        case rel => 
          refine ⟨q + 1, _, by omega, by go_num, rfl, Lib.hid ?_, al_step HB.out (of_al (al_of hb1))⟩
          rw [HS.out, HX.out]
          simp [Int.add_assoc]
        case measure => simp [intOf]; omega
      · obtain rfl : q = n := by omega
        go_wp2
        go_ret
        refine ⟨?_, of_al HB.out⟩
        rw [HK.out, List.take_of_length_le (Nat.le_of_eq H.out.len), It.size_mk]
        rfl

open Classical in
/-- the same? -/
noncomputable def sameB {α : Type} (x y : α) : Bool := decide (x = y)
theorem sameB_true {α : Type} {x y : α} (h : x = y) : sameB x y = true := by simp [sameB, h]
theorem sameB_false {α : Type} {x y : α} (h : x ≠ y) : sameB x y = false := by simp [sameB, h]
/-- what it tells of two items -/
def Tells (f : FuncId) (x : It) : Prop := ∀ (y : It) (w : World) (u v : Value), IsIt w x u → IsIt w y v → Calls Try.prog f #[u, v] w fun e w' => e = .returned (.bool (sameB x y)) ∧ Below w.heap.size w w'
theorem differ (xs ys : List It) (q : Nat) (x y : It) (hx : xs[q]? = some x) (hy : ys[q]? = some y) (h : x ≠ y) : xs ≠ ys := by
  rintro rfl
  exact h (Option.some.inj (hx.symm.trans hy))
theorem take_eq (xs ys : List It) (q : Nat) (x : It) (hx : xs[q]? = some x) (hy : ys[q]? = some x) (h : xs.take q = ys.take q) : xs.take (q + 1) = ys.take (q + 1) := by
  rw [List.take_add_one, List.take_add_one, hx, hy, h]

set_option maxHeartbeats 2000000 in
theorem equalFunc_any (xs ys : List It) (ih : ∀ x ∈ xs, Tells 10 x) (a b : Option Addr) (n m c d : Nat) (w : World) (hx : IsIts w xs a n c) (hy : IsIts w ys b m d) :
    Calls Try.prog 21 #[.slice a n c, .slice b m d, .func (.func 10) #[] #[]] w fun e w' =>
      e = .returned (.bool (sameB xs ys)) ∧ Below w.heap.size w w' := by
  have hm := hx.max
  have hnc := hx.le
  have hm2 := hy.max
  have hnc2 := hy.le
  unfold maxLen at hm hm2
  have H1 := Lib.hid hx
  have H2 := Lib.hid hy
  clear hx hy
  by_cases hnm : n = m
  · subst hnm
    go_enter Try.func21, Try.ntmps21
    go_wp2
    go_loopw [17] (fun i wr => ∃ (q : Nat), q ≤ n ∧ i = .int .i64 q ∧ Hid (xs.take q = ys.take q) ∧ Below w.heap.size w wr) (fun i _ => n - (intOf i).toNat)
    case atStart => exact ⟨0, Nat.zero_le _, rfl, Lib.hid rfl, Below.refl _ _⟩
    case round =>
      obtain ⟨q, hq, rfl, HK, hB⟩ := hrel
      have HB := Lib.hid hB
      clear hB
      by_cases hlt : q < n
      · obtain ⟨x, b, off, A, N, C, hx, rfl, hb, hL, hI⟩ := H1.out.at' q hlt
        obtain ⟨y, b2, off2, A2, N2, C2, hy, rfl, hb2, hL2, hI2⟩ := H2.out.at' q hlt
        have hBw := HB.out
        obtain ⟨e0, e1, e2⟩ := hL.stays hBw hb
        obtain ⟨f0, f1, f2⟩ := hL2.stays hBw hb2
        have hlt1 : b < wr.heap.size := Nat.lt_of_lt_of_le hb hBw.size
        have hlt2 : b2 < wr.heap.size := Nat.lt_of_lt_of_le hb2 hBw.size
        have HI := Lib.hid (fun w1 (hw : Below wr.heap.size wr w1) => ih x (List.mem_of_getElem? hx) y w1 _ _ ⟨A, N, C, rfl, hI.stays (hBw.trans (hw.mono hBw.size))⟩ ⟨A2, N2, C2, rfl, hI2.stays (hBw.trans (hw.mono hBw.size))⟩)
        unfold itV at HI
        clear hL hI hL2 hI2 hBw ih
        by_cases hxy : x = y
        · have HT := Lib.hid (take_eq xs ys q x hx (by rw [hy, hxy]) HK.out)
          rw [sameB_true hxy] at HI
          clear hx hy hxy
          go_wp2_with fail
          refine (HI.out _ (al2 _ _ _)).mono ?_
          rintro e w1 ⟨rfl, hb1⟩
          go_wp2
          go_roundw
          case rel => exact ⟨q + 1, by omega, by go_num, Lib.hid HT.out, below_step' HB.out (below_step' (al2 _ _ _) hb1)⟩
          case measure => simp [intOf]; omega
        · have HT := Lib.hid (differ xs ys q x y hx hy hxy)
          rw [sameB_false hxy] at HI
          clear hx hy hxy
          go_wp2_with fail
          refine (HI.out _ (al2 _ _ _)).mono ?_
          rintro e w1 ⟨rfl, hb1⟩
          go_wp2
          go_ret
          exact ⟨by rw [sameB_false HT.out]; rfl, below_step' HB.out (below_step' (al2 _ _ _) hb1)⟩
      · obtain rfl : q = n := by omega
        have HE : Hid (xs = ys) := Lib.hid (by
          have := HK.out
          rwa [List.take_of_length_le (Nat.le_of_eq H1.out.len), List.take_of_length_le (Nat.le_of_eq H2.out.len)] at this)
        clear ih
        go_wp2
        go_ret
        exact ⟨by rw [sameB_true HE.out]; rfl, HB.out⟩
  · have HE : Hid (xs ≠ ys) := Lib.hid (by
      rintro rfl
      exact hnm (H1.out.len.symm.trans H2.out.len))
    have hd : ((n : Int) != (m : Int)) = true := by simp; omega
    clear ih
    go_enter Try.func21, Try.ntmps21
    go_wp2
    go_ret
    exact ⟨by rw [sameB_false HE.out]; rfl, Below.refl _ _⟩

theorem text_ne {s s' : ByteArray} (h : s ≠ s') : (s.toList == s'.toList) = false := by
  rw [beq_eq_false_iff_ne, ByteArray.toList_eq, ByteArray.toList_eq]
  exact fun e => h (ByteArray.ext (Array.toList_inj.mp e))
theorem it_ne {l l' : Bool} {s s' : ByteArray} {xs ys : List It} (h : l ≠ l' ∨ s ≠ s' ∨ xs ≠ ys) : It.mk l s xs ≠ It.mk l' s' ys := by
  rintro ⟨⟩
  simp at h

set_option maxHeartbeats 2000000 in
theorem same_any (x : It) : Tells 10 x := by
  induction x using It.ind with
  | h l s xs ih =>
    rintro ⟨l', s', ys⟩ w u v ⟨a, n, cap, rfl, hx⟩ ⟨b, m, d, rfl, hy⟩
    have HE := Lib.hid (fun w1 hw => equalFunc_any xs ys ih a b n m cap d w1 (hx.stays (w' := w1) hw) (hy.stays (w' := w1) hw))
    clear ih hx hy
    unfold itV
    dsimp only [It.l, It.s, It.xs] at *
    by_cases hl : l = l'
    · by_cases hs : s = s'
      · have HS : Hid (sameB xs ys = sameB (It.mk l s xs) (It.mk l' s' ys)) := Lib.hid (by
          subst hl hs
          simp [sameB])
        go_enter Try.func10, Try.ntmps10
        go_wp2_with fail
        refine (HE.out _ (al2 _ _ _)).mono ?_
        rintro e w1 ⟨rfl, hb1⟩
        go_wp2
        go_ret
        exact ⟨by rw [← HS.out]; rfl, below_step' (al2 _ _ _) hb1⟩
      · have HS : Hid (It.mk l s xs ≠ It.mk l' s' ys) := Lib.hid (it_ne (.inr (.inl hs)))
        have hne := text_ne hs
        go_enter Try.func10, Try.ntmps10
        go_wp2
        go_ret
        exact ⟨by rw [sameB_false HS.out]; rfl, al2 _ _ _⟩
    · have HS : Hid (It.mk l s xs ≠ It.mk l' s' ys) := Lib.hid (it_ne (.inl hl))
      go_enter Try.func10, Try.ntmps10
      go_wp2
      go_ret
      exact ⟨by rw [sameB_false HS.out]; rfl, al2 _ _ _⟩
end Rl
end Go.Proofs.Ytmnihiagkmdepaa
