/-
  The plain answer's Get: bytes that are no item of 2 or 17.
-/
import Derived.Test.YtoeblhdddehemaaDoorMg25
import Derived.Deep.DeepCutAuto
namespace Go.Proofs.YtoeblhdddehemaaDoor
set_option maxRecDepth 100000
open Go.RowKit

namespace No
open Rl Ni

set_option maxHeartbeats 8000000 in
theorem rget_err (s : ByteArray) (hs : s.size ≤ 1000000) (c : Int) (hr : readL s.data.toList 0 0 = .error c) (w : World) : Calls Tryd.prog 28 #[.string s] w (ReadPost w (getP s.data.toList)) := by
  have hg : getP s.data.toList = none := get_err (by rw [len_s]; omega) (whole_err hr)
  rw [hg]
  obtain ⟨w2, hw2⟩ : ∃ w2, w2 = w.alloc (.cells (ndC nd0 none 0 0) 45) := ⟨_, rfl⟩
  have hs2 : w2.heap.size = w.heap.size + 1 := by rw [hw2]; simp
  have HO : Hid (OwnN w2 w.heap.size nd0 none 0 0) := Lib.hid (by rw [hw2]; exact Rg.Own.new _ _ _)
  have HB2 : Hid (Below w.heap.size w w2) := Lib.hid (by rw [hw2]; exact al1 _ _)
  have HW := Lib.hid (rread_err hs hr w2)
  clear hg hr hs2
  subst hw2
  go_enter Tryd.func28, Tryd.ntmps28
  go_wp2_with (refine Rg.run rfl _ _ (run_alloc_nd _ _ _ w.heap.size rfl rfl) ?_)
  with_reducible refine HW.out.mono ?_
  rintro e w3 ⟨c, hc, rfl, hb3⟩
  have hne : (c != 0) = true := by simp; exact hc
  have HO3 := Lib.hid ((HO.out.below hb3).below (al1 w3 (.cells #[.bool false, .string ⟨#[]⟩, .slice none 0 0] 63)))
  have HB3 := Lib.hid (below_step' (below_step' HB2.out hb3) (al1 w3 (.cells #[.bool false, .string ⟨#[]⟩, .slice none 0 0] 63)))
  clear hb3 HW hc
  go_upto_if 43 with fail
  go_wp2_with (first
    | (refine Rg.run rfl _ _ (op_build built0 ?_) ?_; · exact ⟨_, rfl, rfl⟩)
    | (refine wpl_store_nd HO3.out rfl nd0 none 0 0 rfl rfl _ _ rfl rfl rfl rfl ?_))
  exact bodyPost_ret (res_nd1 rfl _ rfl (own_rowN HO3.out) rfl) rfl ⟨nd0, none, 0, 0, false, rfl, .inr ⟨rfl, rfl⟩, BsF.nil _ _, rfl, below_rowN HB3.out (Nat.le_refl _) _⟩

set_option maxHeartbeats 8000000 in
theorem rget_long (s : ByteArray) (hs : s.size ≤ 1000000) (x : It) (n k : Nat) (hr : readL s.data.toList 0 0 = .ok (x, n, k)) (hn : n < s.size) (w : World) : Calls Tryd.prog 28 #[.string s] w (ReadPost w (getP s.data.toList)) := by
  have hg : getP s.data.toList = none := get_err (by rw [len_s]; omega) (whole_long hr (by rw [len_s]; exact hn))
  rw [hg]
  obtain ⟨w2, hw2⟩ : ∃ w2, w2 = w.alloc (.cells (ndC nd0 none 0 0) 45) := ⟨_, rfl⟩
  have hs2 : w2.heap.size = w.heap.size + 1 := by rw [hw2]; simp
  have HO : Hid (OwnN w2 w.heap.size nd0 none 0 0) := Lib.hid (by rw [hw2]; exact Rg.Own.new _ _ _)
  have HB2 : Hid (Below w.heap.size w w2) := Lib.hid (by rw [hw2]; exact al1 _ _)
  have HW := Lib.hid (rread_ok hs hr w2)
  have hnn : ((n : Int) != (s.size : Int)) = true := by simp; omega
  clear hg hr
  subst hw2
  go_enter Tryd.func28, Tryd.ntmps28
  go_wp2_with (refine Rg.run rfl _ _ (run_alloc_nd _ _ _ w.heap.size rfl rfl) ?_)
  with_reducible refine HW.out.mono ?_
  rintro e w3 ⟨a3, n3, c3, lI, rfl, hI3, hb3⟩
  rw [hs2] at hI3
  obtain ⟨hN45, hC4, hO4, hB4, hall⟩ := get_boxes w w3 (HO.out.below hb3) (below_step' HB2.out hb3) x a3 n3 c3
  have hn3 : n3 = x.xs.length := hI3.len.symm
  have HO4 := Lib.hid hO4
  have HB4 := Lib.hid hB4
  clear hb3 HW hI3 hN45 hall hO4 hB4 hn3 hs2
  go_upto_if 43 with fail
  go_wp2_with (first
    | (refine Rg.run rfl _ _ (op_build built0 ?_) ?_; · exact ⟨_, rfl, rfl⟩)
    | (refine wpl_store_nd HO4.out rfl nd0 none 0 0 rfl rfl _ _ rfl rfl rfl rfl ?_))
  exact bodyPost_ret (res_nd1 rfl _ rfl (own_rowN HO4.out) rfl) rfl ⟨nd0, none, 0, 0, false, rfl, .inr ⟨rfl, rfl⟩, BsF.nil _ _, rfl, below_rowN HB4.out (Nat.le_refl _) _⟩

set_option maxHeartbeats 8000000 in
theorem rget_few (s : ByteArray) (hs : s.size ≤ 1000000) (x : It) (k : Nat) (hr : readL s.data.toList 0 0 = .ok (x, s.size, k)) (hw : wholeL s.data.toList = .ok x) (h2 : x.xs.length ≠ 2) (h17 : x.xs.length ≠ 17) (w : World) : Calls Tryd.prog 28 #[.string s] w (ReadPost w (getP s.data.toList)) := by
  have hg : getP s.data.toList = none := get_few (by rw [len_s]; omega) hw h2 h17
  rw [hg]
  obtain ⟨w2, hw2⟩ : ∃ w2, w2 = w.alloc (.cells (ndC nd0 none 0 0) 45) := ⟨_, rfl⟩
  have hs2 : w2.heap.size = w.heap.size + 1 := by rw [hw2]; simp
  have HO : Hid (OwnN w2 w.heap.size nd0 none 0 0) := Lib.hid (by rw [hw2]; exact Rg.Own.new _ _ _)
  have HB2 : Hid (Below w.heap.size w w2) := Lib.hid (by rw [hw2]; exact al1 _ _)
  have HW := Lib.hid (rread_ok hs hr w2)
  clear hg hr hw
  subst hw2
  go_enter Tryd.func28, Tryd.ntmps28
  go_wp2_with (refine Rg.run rfl _ _ (run_alloc_nd _ _ _ w.heap.size rfl rfl) ?_)
  with_reducible refine HW.out.mono ?_
  rintro e w3 ⟨a3, n3, c3, lI, rfl, hI3, hb3⟩
  rw [hs2] at hI3
  obtain ⟨hN45, hC4, hO4, hB4, hall⟩ := get_boxes w w3 (HO.out.below hb3) (below_step' HB2.out hb3) x a3 n3 c3
  have hn3 : n3 = x.xs.length := hI3.len.symm
  have HO4 := Lib.hid hO4
  have HB4 := Lib.hid hB4
  have hm := hI3.max
  have hnc := hI3.le
  unfold maxLen at hm
  have d2 : ((n3 : Int) != 2) = true := by simp; omega
  have d17 : ((n3 : Int) != 17) = true := by simp; omega
  clear hb3 HW hI3 hN45 hall hO4 hB4 hn3 hs2
  go_wp2_with (first
    | (refine Rg.run rfl _ _ (op_build built0 ?_) ?_; · exact ⟨_, rfl, rfl⟩)
    | (refine wpl_store_nd HO4.out rfl nd0 none 0 0 rfl rfl _ _ rfl rfl rfl rfl ?_))
  exact bodyPost_ret (res_nd1 rfl _ rfl (own_rowN HO4.out) rfl) rfl ⟨nd0, none, 0, 0, false, rfl, .inr ⟨rfl, rfl⟩, BsF.nil _ _, rfl, below_rowN HB4.out (Nat.le_refl _) _⟩
end No
end Go.Proofs.YtoeblhdddehemaaDoor
