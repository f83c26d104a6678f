/-
  Contracts of wide.Texts and of what it lays texts with; of the plain answers' Text, Low, High.
-/
import Derived.Test.YtgpnhdnncfpbcaaDoorWideR
import Derived.Test.YtgpnhdnncfpbcaaDoorBuilder
namespace Go.Proofs.YtgpnhdnncfpbcaaDoor
open Go.RowKit WideP

namespace Tx
set_option maxHeartbeats 1000000 in
/-- two fields laid behind what a builder holds -/
theorem two {B b bx sb : Nat} {bs : List Value} {w : World} (x y : ByteArray) (h : Bu.Is B b bs w) (hbx : w.heap[bx]? = some (.cells #[.pointer (some ⟨b, 0, none⟩)] 47 (0, 0)))
    (hsb : w.heap[sb]? = some (.cells #[.string x, .string y] 9 (0, 0))) (hlen : bs.length + x.size + y.size ≤ 140737488355328) (hBw : B ≤ w.heap.size) :
    Calls Tryd.prog 41 #[.slice (some ⟨sb, 0, none⟩) 2 2, .pointer (some ⟨bx, 0, none⟩)] w fun e w' => e = .returned (.tuple #[]) ∧ Bu.Is B b (bs ++ Lib.strCells x ++ Lib.strCells y) w' ∧ Below B w w' ∧ Lib.OthersKept 5 (some b) w w' := by
  have nx : bx ≠ b := h.not_at hbx (by decide)
  have ns : sb ≠ b := h.not_at hsb (by decide)
  have cx : w.cell? ⟨bx, 0, none⟩ = some (.pointer (some ⟨b, 0, none⟩)) := by rw [Lib.cell_of_heap hbx]; rfl
  have c0 : w.cell? ⟨sb, 0, none⟩ = some (.string x) := by rw [Lib.cell_of_heap hsb]; rfl
  have c1 : w.cell? ⟨sb, 1, none⟩ = some (.string y) := by rw [Lib.cell_of_heap hsb]; rfl
  go_enter Tryd.func41, Tryd.ntmps41
  go_wp2
  refine wp_loop_rounds 3 ?_
  rw [rounds_succ]
  go_wp2_with (go_at_call 42; refine (Bu.write x h (by omega) hBw).mono ?_)
  rintro e w1 ⟨rfl, h1, hb1, hk1⟩
  have hbx1 := hk1 bx _ hbx (by simpa using nx) (by intro c fz e; cases e)
  have hsb1 := hk1 sb _ hsb (by simpa using ns) (by intro c fz e; cases e)
  have cx1 : w1.cell? ⟨bx, 0, none⟩ = some (.pointer (some ⟨b, 0, none⟩)) := by rw [Lib.cell_of_heap hbx1]; rfl
  have c11 : w1.cell? ⟨sb, 1, none⟩ = some (.string y) := by rw [Lib.cell_of_heap hsb1]; rfl
  have hz := hb1.size
  clear hbx1 hsb1 hbx hsb
  go_wp2
  rw [rounds_succ]
  go_wp2_with (go_at_call 42; refine (Bu.write y h1 (by simp [Lib.strCells_length]; omega) (by omega)).mono ?_)
  rintro e w2 ⟨rfl, h2, hb2, hk2⟩
  go_wp2
  rw [rounds_succ]
  go_wp2
  go_end0
  exact ⟨rfl, h2, hb1.trans hb2, hk1.trans hk2⟩

/-- texts within a text -/
def textsL (xs : List ByteArray) : List UInt8 := xs.flatMap fun x => numL x.size 4 ++ x.data.toList
theorem textsL_snoc (xs : List ByteArray) (x : ByteArray) : textsL (xs ++ [x]) = textsL xs ++ (numL x.size 4 ++ x.data.toList) := by simp [textsL]

theorem layer_any (b : Nat) (w : World) :
    Calls Tryd.prog 34 #[.pointer (some ⟨b, 0, none⟩)] w fun e w' => e = .returned (.func (Fn.func 41) #[] #[.pointer (some ⟨w.heap.size, 0, none⟩)]) ∧ w' = w.alloc (.cells #[.pointer (some ⟨b, 0, none⟩)] 47) := by
  go_enter Tryd.func34, Tryd.ntmps34
  go_wp2
  go_ret
  exact ⟨rfl, rfl⟩

/-- what holds at the head of a round of Texts: k texts are laid -/
def Laid (w : World) (xs : List ByteArray) (k : Nat) (wr : World) : Prop :=
  Bu.Is w.heap.size w.heap.size (Lib.byteCells (textsL (xs.take k))) wr ∧ wr.heap[w.heap.size + 1]? = some (.cells #[.pointer (some ⟨w.heap.size, 0, none⟩)] 47 (0, 0)) ∧ Below w.heap.size w wr

theorem heap_new (w : World) (o : Obj) : (w.alloc o).heap[w.heap.size]? = some o := by
  show (w.heap.push o)[w.heap.size]? = some o
  simp
theorem heap_new_at {w : World} {n : Nat} (o : Obj) (h : n = w.heap.size) : (w.alloc o).heap[n]? = some o := by
  subst h; exact heap_new w o
theorem Laid.start (w : World) (xs : List ByteArray) :
    Laid w xs 0 ((w.alloc (.cells #[.pointer none, .slice none 0 0] 49)).alloc (.cells #[.pointer (some ⟨w.heap.size, 0, none⟩)] 47)) := by
  refine ⟨?_, ?_, ((Below.refl _ _).alloc (Nat.le_refl _) _).alloc (by simp) _⟩
  · exact Bu.fresh (Nat.le_refl _) ((Lib.alloc_old _ _ _ (by simp)).trans (heap_new _ _))
  · exact heap_new_at _ (by simp)

theorem textsL_take (xs : List ByteArray) (k : Nat) (h : k < xs.length) : textsL (xs.take (k + 1)) = textsL (xs.take k) ++ (numL (xs.getD k ByteArray.empty).size 4 ++ (xs.getD k ByteArray.empty).data.toList) := by
  rw [List.take_succ_eq_append_getElem h, textsL_snoc]
  simp [List.getD, h]
theorem textsL_take_le (xs : List ByteArray) (k : Nat) : (textsL (xs.take k)).length ≤ (textsL xs).length := by
  conv => rhs; rw [← List.take_append_drop k xs]
  unfold textsL
  rw [List.flatMap_append, List.length_append]
  exact Nat.le_add_right _ _

/-- a round's end -/
theorem Laid.next {w wr w1 w2 : World} {xs : List ByteArray} {k : Nat} (h : Laid w xs k wr) (hk : k < xs.length) (x : ByteArray) (hx : xs.getD k ByteArray.empty = x) (hb1 : Below wr.heap.size wr w1) (o : Obj)
    (h2 : Bu.Is w.heap.size w.heap.size (Lib.byteCells (textsL (xs.take k)) ++ Lib.strCells ⟨(numL x.size 4).toArray⟩ ++ Lib.strCells x) w2)
    (hb2 : Below w.heap.size (w1.alloc o) w2) (hk2 : Lib.OthersKept 5 (some w.heap.size) (w1.alloc o) w2) : Laid w xs (k + 1) w2 := by
  obtain ⟨hi, hb, hl⟩ := h
  have hlt : w.heap.size + 1 < wr.heap.size := (Array.getElem?_eq_some_iff.1 hb).1
  have hs1 := hb1.size
  refine ⟨?_, ?_, ?_⟩
  · rw [textsL_take xs k hk, hx, Lib.byteCells_append, Lib.byteCells_append]
    simpa [Lib.strCells_eq] using h2
  · refine hk2 _ _ ?_ (by simp) (by intro c fz e; cases e)
    rw [Lib.alloc_old w1 _ _ (by omega), hb1.block _ hlt]
    exact hb
  · exact ((hl.trans (hb1.mono (by omega))).alloc (by have := hl.size; omega) o).trans hb2

set_option maxHeartbeats 2000000 in
theorem texts_any (a : Option Addr) (n cap : Nat) (xs : List ByteArray) (w : World) (hn : xs.length = n) (hmax : n ≤ maxLen)
    (hcell : ∀ j, j < n → ∃ sb off, a = some ⟨sb, off, none⟩ ∧ sb < w.heap.size ∧ w.cell? ⟨sb, off + j, none⟩ = some (.string (xs.getD j ByteArray.empty)))
    (hsz : ∀ j, j < n → (xs.getD j ByteArray.empty).size < 2 ^ 62)
    (hlen : (textsL xs).length ≤ 140737488355328) :
    Calls Tryd.prog 23 #[.slice a n cap] w fun e w' => e = .returned (.string ⟨(textsL xs).toArray⟩) ∧ Below w.heap.size w w' := by
  unfold maxLen at hmax
  have HN := Lib.hid hn
  clear hn
  have HC := Lib.hid hcell
  clear hcell
  have HS := Lib.hid hsz
  clear hsz
  go_enter Tryd.func23, Tryd.ntmps23
  go_wp2_with (go_at_call 34; refine (layer_any _ _).mono ?_; rintro e w' ⟨rfl, rfl⟩)
  go_loopw [10] (fun i wr => ∃ k : Nat, k ≤ n ∧ i = .int .i64 k ∧ Laid w xs k wr) (fun i _ => n - (intOf i).toNat)
  case atStart => exact ⟨0, Nat.zero_le _, rfl, Laid.start w xs⟩
  case round =>
    obtain ⟨k, hk, rfl, hL⟩ := hrel
    by_cases hlt : k < n
    · obtain ⟨sb, off, rfl, hsb, hc0⟩ := HC.out k hlt
      obtain ⟨x, hx⟩ : ∃ x, xs.getD k ByteArray.empty = x := ⟨_, rfl⟩
      have hxs := HS.out k hlt
      rw [hx] at hc0 hxs
      have hc : wr.cell? ⟨sb, off + k, none⟩ = some (.string x) := by rw [hL.2.2.cell (p := ⟨sb, off + k, none⟩) hsb]; exact hc0
      have HX := Lib.hid hx
      clear hx hc0
      have hLt := textsL_take xs k (by rw [HN.out]; exact hlt)
      have hLe := textsL_take_le xs (k + 1)
      rw [HX.out] at hLt
      rw [hLt] at hLe
      have hLe2 : (textsL (xs.take k)).length + 4 + x.size ≤ 140737488355328 := by
        have e1 : (numL x.size 4).length = 4 := numL_length _ _
        have e2 : x.data.toList.length = x.size := by simp
        simp only [List.length_append, e1, e2] at hLe
        omega
      clear hLt hLe hlen
      have hlt2 : w.heap.size + 1 < wr.heap.size := (Array.getElem?_eq_some_iff.1 hL.2.1).1
      go_wp2_with fail
      refine (num4 _ (by omega) _).mono ?_
      rintro e w1 ⟨rfl, hb1⟩
      have hsz1 := hb1.size
      go_wp2_with fail
      refine (two _ _ ((hL.1.kept (Bu.grown_below hb1)).kept (World.grownBy_alloc _ _ _)) ((Lib.alloc_old _ _ _ (by omega)).trans ((hb1.block _ hlt2).trans hL.2.1)) (heap_new _ _) ?_ ?_).mono ?_
      · simp only [Lib.byteCells_length]
        have e1 : (⟨(numL x.size 4).toArray⟩ : ByteArray).size = 4 := by
          show (numL x.size 4).toArray.size = 4
          simp [numL_length]
        omega
      · have := hL.2.2.size; simp; omega
      rintro e w2 ⟨rfl, h2, hb2, hk2⟩
      go_wp2
      go_roundw
      case rel => exact ⟨k + 1, by omega, by go_num, hL.next (by rw [HN.out]; exact hlt) x HX.out hb1 _ h2 hb2 hk2⟩
      case measure => simp [intOf]; omega
    · obtain rfl : k = n := by omega
      have hI := hL.1
      have hb := hL.2.2
      have HT : Hid (xs.take k = xs) := Lib.hid (List.take_of_length_le (by rw [HN.out]; exact Nat.le_refl _))
      clear hlen
      rw [HT.out] at hI
      go_wp2_with (go_at_call 25; refine (Bu.text hI hb.size).mono ?_)
      rintro e w2 ⟨rfl, hb2⟩
      go_wp2
      go_ret
      exact ⟨rfl, hb.trans hb2⟩
end Tx

namespace Rx
theorem rnum4 (n : Nat) (hn : n < 2 ^ 64) (w : World) :
    Calls Tryd.prog 17 #[.int .u64 n, .int .i64 4] w fun e w' => e = .returned (.string ⟨(numL n 4).toArray⟩) ∧ Below w.heap.size w w' :=
  rnum_any n hn 4 (by omega) w
theorem text_any (x : ByteArray) (w : World) (hx : x.size < 2 ^ 62) :
    Calls Tryd.prog 6 #[.string x] w fun e w' => e = .returned (.string ⟨(numL x.size 4 ++ x.data.toList).toArray⟩) ∧ Below w.heap.size w w' := by
  have HB : Hid ((⟨(numL x.size 4).toArray⟩ : ByteArray) ++ x = ⟨(numL x.size 4 ++ x.data.toList).toArray⟩) := Lib.hid (ba_append (numL x.size 4) x.data.toList)
  have hl : (numL x.size 4).length ≤ 4 := by rw [numL_length]; omega
  go_enter Tryd.func6, Tryd.ntmps6
  go_wp2_with (go_at_call 17; refine (rnum4 _ (by omega) _).mono ?_; rintro e w1 ⟨rfl, hb1⟩)
  go_ret
  exact ⟨by rw [HB.out]; rfl, hb1⟩
end Rx
end Go.Proofs.YtgpnhdnncfpbcaaDoor
