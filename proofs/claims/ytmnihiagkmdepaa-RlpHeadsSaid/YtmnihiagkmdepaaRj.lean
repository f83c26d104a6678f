/-
  How many items were met: contracts of (*rlp.tally).meet and (*rlp.tally).check.
-/
import Derived.Test.YtmnihiagkmdepaaPk
import Derived.Test.YtmnihiagkmdepaaRb
import Derived.Test.YtmnihiagkmdepaaRi
namespace Go.Proofs.Ytmnihiagkmdepaa
open Go.RowKit

namespace Rl
open Pk
/-- so many were met -/
def Tal (w : World) (g : Nat) (k : Int) : Prop := w.cell? ⟨g, 0, none⟩ = some (.int .i64 k) ∧ w.frozen? ⟨g, 0, none⟩ = false
theorem Tal.lt {w : World} {g : Nat} {k : Int} (h : Tal w g k) : g < w.heap.size := World.block_lt_of_cell? w _ h.1
theorem Tal.below {w w' : World} {g : Nat} {k : Int} (h : Tal w g k) (hb : Below w.heap.size w w') : Tal w' g k :=
  ⟨(hb.cell (p := ⟨g, 0, none⟩) h.lt).trans h.1, (hb.frozen (p := ⟨g, 0, none⟩) h.lt).trans h.2⟩
theorem Tal.set {w : World} {g : Nat} {k : Int} (h : Tal w g k) (k' : Int) : Tal (w.setCell ⟨g, 0, none⟩ (.int .i64 k')) g k' := by
  refine ⟨?_, ?_⟩
  · exact World.cell?_setCell_same _ _ _ h.1
  · rw [World.frozen?_setCell]; exact h.2
theorem gb_refl (w : World) (r : Option Nat) : w.grownBy w r := ⟨rfl, rfl, rfl, Nat.le_refl _, fun _ _ _ => rfl⟩
theorem gb_trans {w w1 w2 : World} {r : Option Nat} (h : w.grownBy w1 r) (h2 : w1.grownBy w2 r) : w.grownBy w2 r :=
  ⟨h2.os.trans h.os, h2.tape.trans h.tape, h2.output.trans h.output, Nat.le_trans h.size h2.size, fun k hk hr => (h2.block k (Nat.lt_of_lt_of_le hk h.size) hr).trans (h.block k hk hr)⟩
theorem gb_of {w w1 : World} {r : Option Nat} (h : Below w.heap.size w w1) : w.grownBy w1 r := ⟨h.os, h.tape, h.output, h.size, fun k hk _ => h.block k hk⟩
theorem gb_set (w : World) (g o : Nat) (v : Value) : w.grownBy (w.setCell ⟨g, o, none⟩ v) (some g) :=
  ⟨rfl, rfl, rfl, by simp, fun k _ hr => Below.heap_setCell w _ v k (fun e => hr (by rw [e]))⟩
theorem gb_below {B : Nat} {w0 w w' : World} {g : Nat} (h : Below B w0 w) (hg : w.grownBy w' (some g)) (hB : B ≤ w0.heap.size) (hr : B ≤ g) : Below B w0 w' :=
  h.grown hg (Nat.le_trans hB h.size) (fun k hk => by cases hk; exact hr)

/-- what meeting one item more tells -/
def meetE (around k : Int) : Int := if 64 < around then 17 else if 4096 < k + 1 then 4 else 0

set_option maxHeartbeats 1000000 in
theorem meet_ok (g : Nat) (around k : Int) (ha : around ≤ 64) (h0 : 0 ≤ k) (hk : k + 1 ≤ 4096) (w : World) (h : Tal w g k) :
    Calls Try.prog 33 #[.pointer (some ⟨g, 0, none⟩), .int .i64 around] w fun e w' => e = .returned (.tuple #[]) ∧ w' = w.setCell ⟨g, 0, none⟩ (.int .i64 (k + 1)) := by
  obtain ⟨hc, hz⟩ := h
  go_enter Try.func33, Try.ntmps33
  go_wp2
  go_end0
  exact ⟨rfl, rfl⟩
set_option maxHeartbeats 1000000 in
theorem meet_deep (g : Nat) (around k : Int) (ha : ¬ around ≤ 64) (h0 : 0 ≤ k) (hk : k + 1 ≤ 1099511627776) (w : World) (h : Tal w g k) :
    Calls Try.prog 33 #[.pointer (some ⟨g, 0, none⟩), .int .i64 around] w fun e w' => e = .panicked [errP 17] ∧ w' = w.setCell ⟨g, 0, none⟩ (.int .i64 (k + 1)) := by
  obtain ⟨hc, hz⟩ := h
  go_enter Try.func33, Try.ntmps33
  go_wp2_with (go_at_call 34; refine (fail_any _ _).mono ?_; rintro e w1 ⟨rfl, rfl⟩)
  simp [bodyPost]
set_option maxHeartbeats 1000000 in
theorem meet_big (g : Nat) (around k : Int) (ha : around ≤ 64) (hk : ¬ k + 1 ≤ 4096) (hk2 : k + 1 ≤ 1099511627776) (w : World) (h : Tal w g k) :
    Calls Try.prog 33 #[.pointer (some ⟨g, 0, none⟩), .int .i64 around] w fun e w' => e = .panicked [errP 4] ∧ w' = w.setCell ⟨g, 0, none⟩ (.int .i64 (k + 1)) := by
  obtain ⟨hc, hz⟩ := h
  go_enter Try.func33, Try.ntmps33
  go_wp2_with (go_at_call 34; refine (fail_any _ _).mono ?_; rintro e w1 ⟨rfl, rfl⟩)
  simp [bodyPost]
/-- an item that may be, around which so many lists stand -/
inductive Fits : Nat → It → Prop
  | mk {around : Nat} {l : Bool} {s : ByteArray} {xs : List It} (ha : around ≤ 64) (hs : l = true → s = ⟨#[]⟩) (hx : l = false → xs = []) (h : ∀ y ∈ xs, Fits (around + 1) y) : Fits around (.mk l s xs)
theorem size_pos (x : It) : 0 < x.size := by
  cases x
  rw [It.size_mk]
  omega
theorem sum_le (xs : List It) (q : Nat) (x : It) (h : xs[q]? = some x) : ((xs.take q).map It.size).sum + x.size ≤ (xs.map It.size).sum := by
  have := sum_take xs q x h
  have h2 : (xs.map It.size).sum = ((xs.take (q + 1)).map It.size).sum + ((xs.drop (q + 1)).map It.size).sum := by
    rw [← List.sum_append_nat, ← List.map_append, List.take_append_drop]
  omega

theorem box_cells {w w1 : World} {l : Bool} {s : ByteArray} {a : Option Addr} {n cap g : Nat} {z : Value} (hg : g < w.heap.size) (h : w1 = (w.alloc (.cells #[.bool l, .string s, .slice a n cap] 24)).setCell ⟨g, 0, none⟩ z) :
    w1.cell? ⟨w.heap.size, 0, none⟩ = some (.bool l) ∧ w1.cell? ⟨w.heap.size, 1, none⟩ = some (.string s) ∧ w1.cell? ⟨w.heap.size, 2, none⟩ = some (.slice a n cap) := by
  subst h
  refine ⟨?_, ?_, ?_⟩
  all_goals
    rw [World.cell?_setCell_other _ _ _ _ (by simp; try omega), World.cell?_alloc_mark]
    rfl

set_option maxHeartbeats 4000000 in
theorem check_any (x : It) : ∀ (around k g : Nat) (ar : Int) (w0 w : World) (v : Value), ar = around → IsIt w0 x v → Below w0.heap.size w0 w → w0.heap.size ≤ g → Fits around x → k + x.size ≤ 4096 → Tal w g k →
    Calls Try.prog 25 #[.pointer (some ⟨g, 0, none⟩), v, .int .i64 ar] w fun e w' => e = .returned (.tuple #[]) ∧ Tal w' g (k + x.size : Nat) ∧ w.grownBy w' (some g) := by
  induction x using It.ind with
  | h l s xs ih =>
    rintro around k g ar w0 w v har ⟨a, n, cap, rfl, h⟩ hB hg hF hk hT
    have hm := h.max
    have hnc := h.le
    have hlen := h.len
    unfold maxLen at hm
    have hgl := hT.lt
    cases hF with
    | mk ha hs hx hy =>
      rw [It.size_mk] at hk ⊢
      have H := Lib.hid h
      have HY := Lib.hid hy
      have HIh := Lib.hid ih
      have HB0 := Lib.hid hB
      have HM := Lib.hid (meet_ok g ar k (by omega) (by omega) (by omega) (w.alloc (.cells (itC (.mk l s xs) a n cap) 24)) (hT.below (al1 _ _)))
      have HT := Lib.hid ((hT.below (al1 w (.cells (itC (.mk l s xs) a n cap) 24))).set (k + 1))
      have HAR := Lib.hid har
      have har2 : ar ≤ 64 := by omega
      clear h hy ih hB hT har
      unfold itV
      dsimp only [It.l, It.s, It.xs, itC] at H HM HT hlen ⊢
      cases l with
      | false =>
        obtain rfl := hx rfl
        have hn0 : n = 0 := hlen.symm
        subst hn0
        clear hs hx HIh HY
        go_enter Try.func25, Try.ntmps25
        go_wp2_with fail
        with_reducible refine HM.out.mono ?_
        rintro e w1 ⟨rfl, hw1⟩
        obtain ⟨c0, c1, c2⟩ := box_cells hgl hw1
        have HT1 : Hid (Tal w1 g (k + 1)) := Lib.hid (by rw [hw1]; exact HT.out)
        have HG1 : Hid (w.grownBy w1 (some g)) := Lib.hid (by rw [hw1]; exact gb_trans (gb_of (al1 _ _)) (gb_set _ _ _ _))
        clear hw1 HM HT
        go_wp2
        refine wp_loop_rounds 1 ?_
        rw [rounds_succ]
        go_wp2
        go_end0
        exact ⟨rfl, by have := HT1.out; simpa using this, HG1.out⟩
      | true =>
        obtain rfl := hs rfl
        clear hs hx
        go_enter Try.func25, Try.ntmps25
        go_wp2_with fail
        with_reducible refine HM.out.mono ?_
        rintro e w1 ⟨rfl, hw1⟩
        obtain ⟨c0, c1, c2⟩ := box_cells hgl hw1
        have HT1 : Hid (Tal w1 g (k + 1)) := Lib.hid (by rw [hw1]; exact HT.out)
        have HG1 : Hid (w.grownBy w1 (some g)) := Lib.hid (by rw [hw1]; exact gb_trans (gb_of (al1 _ _)) (gb_set _ _ _ _))
        clear hw1 HM HT
        go_wp2
        go_loopw [33] (fun i wr => ∃ q : Nat, q ≤ n ∧ i = .int .i64 q ∧ Hid (Tal wr g (k + 1 + ((xs.take q).map It.size).sum : Nat)) ∧ Hid (w.grownBy wr (some g))) (fun i _ => n - (intOf i).toNat)
        case atStart => exact ⟨0, Nat.zero_le _, rfl, Lib.hid (by have := HT1.out; simpa using this), Lib.hid HG1.out⟩
        case round =>
          obtain ⟨q, hq, rfl, HQ, HG⟩ := hrel
          have HBw := Lib.hid (gb_below HB0.out HG.out (Nat.le_refl _) hg)
          clear c0 c1 c2 HT1 HG1
          by_cases hlt : q < n
          · obtain ⟨x, b, off, A, N, C, hx, rfl, hb, hL, hI⟩ := H.out.at' q hlt
            obtain ⟨e0, e1, e2⟩ := hL.stays HBw.out hb
            have hsum := sum_le xs q x hx
            have HS := Lib.hid (sum_take xs q x hx)
            have HI := Lib.hid (HIh.out x (List.mem_of_getElem? hx) (around + 1) (k + 1 + ((xs.take q).map It.size).sum) g (wrap64 (ar + 1)) w0 (wr.alloc (.cells #[.bool x.l, .string x.s, .slice A N C] 24)) (itV x A N C) (by have := HAR.out; simp only [wrap64]; omega) ⟨A, N, C, rfl, hI⟩ (HBw.out.alloc HBw.out.size _) hg (HY.out x (List.mem_of_getElem? hx)) (by omega) (HQ.out.below (al1 _ _)))
            unfold itV at HI
            clear hL hI hx HIh hsum
            go_wp2_with fail
            with_reducible refine HI.out.mono ?_
            rintro e w2 ⟨rfl, ht2, hg2⟩
            have HT2 := Lib.hid ht2
            have HG2 := Lib.hid (gb_trans HG.out (gb_trans (gb_of (al1 _ _)) hg2))
            clear ht2 hg2
            go_wp2
            go_roundw
            case rel => exact ⟨q + 1, by omega, by go_num, Lib.hid (by rw [HS.out, ← Nat.add_assoc]; exact HT2.out), Lib.hid HG2.out⟩
            case measure => simp [intOf]; omega
          · obtain rfl : q = n := by omega
            clear HIh HY
            go_wp2
            go_end0
            refine ⟨rfl, ?_, HG.out⟩
            have := HQ.out
            rw [List.take_of_length_le (Nat.le_of_eq hlen)] at this
            rw [← Nat.add_assoc]
            exact this
end Rl
end Go.Proofs.Ytmnihiagkmdepaa
