/-
  How many items were met: contracts of (*rlp.tally).meet and (*rlp.tally).check.
-/
import Derived.Test.YtoeblhdddehemaaDoorMg7
import Derived.Test.YtoeblhdddehemaaDoorMg8
import Derived.Test.YtoeblhdddehemaaDoorMg1
namespace Go.Proofs.YtoeblhdddehemaaDoor
set_option maxRecDepth 20000
open Go.RowKit

namespace Rl
open Pk
/-- so many were met -/
def Tal (w : World) (g : Nat) (k : Int) : Prop := w.cell? ⟨g, 0, none⟩ = some (.int .i64 k) ∧ w.frozen? ⟨g, 0, none⟩ = false
theorem Tal.lt {w : World} {g : Nat} {k : Int} (h : Tal w g k) : g < w.heap.size := World.block_lt_of_cell? w _ h.1
theorem Tal.below {w w' : World} {g : Nat} {k : Int} (h : Tal w g k) (hb : Below w.heap.size w w') : Tal w' g k :=
  ⟨(hb.cell (p := ⟨g, 0, none⟩) h.lt).trans h.1, (hb.frozen (p := ⟨g, 0, none⟩) h.lt).trans h.2⟩
theorem Tal.set {w : World} {g : Nat} {k : Int} (h : Tal w g k) (k' : Int) : Tal (w.setCell ⟨g, 0, none⟩ (.int .i64 k')) g k' := by
  refine ⟨?_, ?_⟩
  · exact World.cell?_setCell_same _ _ _ h.1
  · rw [World.frozen?_setCell]; exact h.2
theorem gb_refl (w : World) (r : Option Nat) : w.grownBy w r := ⟨rfl, rfl, rfl, Nat.le_refl _, fun _ _ _ => rfl⟩
theorem gb_trans {w w1 w2 : World} {r : Option Nat} (h : w.grownBy w1 r) (h2 : w1.grownBy w2 r) : w.grownBy w2 r :=
  ⟨h2.os.trans h.os, h2.tape.trans h.tape, h2.output.trans h.output, Nat.le_trans h.size h2.size, fun k hk hr => (h2.block k (Nat.lt_of_lt_of_le hk h.size) hr).trans (h.block k hk hr)⟩
theorem gb_of {w w1 : World} {r : Option Nat} (h : Below w.heap.size w w1) : w.grownBy w1 r := ⟨h.os, h.tape, h.output, h.size, fun k hk _ => h.block k hk⟩
theorem gb_set (w : World) (g o : Nat) (v : Value) : w.grownBy (w.setCell ⟨g, o, none⟩ v) (some g) :=
  ⟨rfl, rfl, rfl, by simp, fun k _ hr => Below.heap_setCell w _ v k (fun e => hr (by rw [e]))⟩
theorem gb_below {B : Nat} {w0 w w' : World} {g : Nat} (h : Below B w0 w) (hg : w.grownBy w' (some g)) (hB : B ≤ w0.heap.size) (hr : B ≤ g) : Below B w0 w' :=
  h.grown hg (Nat.le_trans hB h.size) (fun k hk => by cases hk; exact hr)

/-- what meeting one item more tells -/
def meetE (around k : Int) : Int := if 64 < around then 17 else if 4096 < k + 1 then 4 else 0

set_option maxHeartbeats 1000000 in
theorem meet_ok (g : Nat) (around k : Int) (ha : around ≤ 64) (h0 : 0 ≤ k) (hk : k + 1 ≤ 4096) (w : World) (h : Tal w g k) :
    Calls Tryd.prog 82 #[.pointer (some ⟨g, 0, none⟩), .int .i64 around] w fun e w' => e = .returned (.tuple #[]) ∧ w' = w.setCell ⟨g, 0, none⟩ (.int .i64 (k + 1)) := by
  obtain ⟨hc, hz⟩ := h
  go_enter Tryd.func82, Tryd.ntmps82
  go_wp2
  go_end0
  exact ⟨rfl, rfl⟩
set_option maxHeartbeats 1000000 in
theorem meet_deep (g : Nat) (around k : Int) (ha : ¬ around ≤ 64) (h0 : 0 ≤ k) (hk : k + 1 ≤ 1099511627776) (w : World) (h : Tal w g k) :
    Calls Tryd.prog 82 #[.pointer (some ⟨g, 0, none⟩), .int .i64 around] w fun e w' => e = .panicked [errP 17] ∧ w' = w.setCell ⟨g, 0, none⟩ (.int .i64 (k + 1)) := by
  obtain ⟨hc, hz⟩ := h
  go_enter Tryd.func82, Tryd.ntmps82
  go_wp2_with (go_at_call 83; refine (fail_any _ _).mono ?_; rintro e w1 ⟨rfl, rfl⟩)
  simp [bodyPost]
set_option maxHeartbeats 1000000 in
theorem meet_big (g : Nat) (around k : Int) (ha : around ≤ 64) (hk : ¬ k + 1 ≤ 4096) (hk2 : k + 1 ≤ 1099511627776) (w : World) (h : Tal w g k) :
    Calls Tryd.prog 82 #[.pointer (some ⟨g, 0, none⟩), .int .i64 around] w fun e w' => e = .panicked [errP 4] ∧ w' = w.setCell ⟨g, 0, none⟩ (.int .i64 (k + 1)) := by
  obtain ⟨hc, hz⟩ := h
  go_enter Tryd.func82, Tryd.ntmps82
  go_wp2_with (go_at_call 83; refine (fail_any _ _).mono ?_; rintro e w1 ⟨rfl, rfl⟩)
  simp [bodyPost]
/-- an item that may be, around which so many lists stand -/
inductive Fits : Nat → It → Prop
  | mk {around : Nat} {l : Bool} {s : ByteArray} {xs : List It} (ha : around ≤ 64) (hs : l = true → s = ⟨#[]⟩) (hx : l = false → xs = []) (h : ∀ y ∈ xs, Fits (around + 1) y) : Fits around (.mk l s xs)
theorem size_pos (x : It) : 0 < x.size := by
  cases x
  rw [It.size_mk]
  omega
theorem sum_le (xs : List It) (q : Nat) (x : It) (h : xs[q]? = some x) : ((xs.take q).map It.size).sum + x.size ≤ (xs.map It.size).sum := by
  have := sum_take xs q x h
  have h2 : (xs.map It.size).sum = ((xs.take (q + 1)).map It.size).sum + ((xs.drop (q + 1)).map It.size).sum := by
    rw [← List.sum_append_nat, ← List.map_append, List.take_append_drop]
  omega

theorem box_cells {w w1 : World} {l : Bool} {s : ByteArray} {a : Option Addr} {n cap g : Nat} {z : Value} (hg : g < w.heap.size) (h : w1 = (w.alloc (.cells #[.bool l, .string s, .slice a n cap] 63)).setCell ⟨g, 0, none⟩ z) :
    w1.cell? ⟨w.heap.size, 0, none⟩ = some (.bool l) ∧ w1.cell? ⟨w.heap.size, 1, none⟩ = some (.string s) ∧ w1.cell? ⟨w.heap.size, 2, none⟩ = some (.slice a n cap) := by
  subst h
  refine ⟨?_, ?_, ?_⟩
  all_goals
    rw [World.cell?_setCell_other _ _ _ _ (by simp; try omega), World.cell?_alloc_mark]
    rfl

set_option maxHeartbeats 4000000 in
theorem check_any (x : It) : ∀ (around k g : Nat) (ar : Int) (w0 w : World) (v : Value), ar = around → IsIt w0 x v → Below w0.heap.size w0 w → w0.heap.size ≤ g → Fits around x → k + x.size ≤ 4096 → Tal w g k →
    Calls Tryd.prog 60 #[.pointer (some ⟨g, 0, none⟩), v, .int .i64 ar] w fun e w' => e = .returned (.tuple #[]) ∧ Tal w' g (k + x.size : Nat) ∧ w.grownBy w' (some g) := by
  induction x using It.ind with
  | h l s xs ih =>
    rintro around k g ar w0 w v har ⟨a, n, cap, rfl, h⟩ hB hg hF hk hT
    have hm := h.max
    have hnc := h.le
    have hlen := h.len
    unfold maxLen at hm
    have hgl := hT.lt
    cases hF with
    | mk ha hs hx hy =>
      rw [It.size_mk] at hk ⊢
      have H := Lib.hid h
      have HY := Lib.hid hy
      have HIh := Lib.hid ih
      have HB0 := Lib.hid hB
      have HM := Lib.hid (meet_ok g ar k (by omega) (by omega) (by omega) (w.alloc (.cells (itC (.mk l s xs) a n cap) 63)) (hT.below (al1 _ _)))
      have HT := Lib.hid ((hT.below (al1 w (.cells (itC (.mk l s xs) a n cap) 63))).set (k + 1))
      have HAR := Lib.hid har
      have har2 : ar ≤ 64 := by omega
      clear h hy ih hB hT har
      unfold itV
      dsimp only [It.l, It.s, It.xs, itC] at H HM HT hlen ⊢
      cases l with
      | false =>
        obtain rfl := hx rfl
        have hn0 : n = 0 := hlen.symm
        subst hn0
        clear hs hx HIh HY
        go_enter Tryd.func60, Tryd.ntmps60
        go_wp2_with fail
        with_reducible refine HM.out.mono ?_
        rintro e w1 ⟨rfl, hw1⟩
        obtain ⟨c0, c1, c2⟩ := box_cells hgl hw1
        have HT1 : Hid (Tal w1 g (k + 1)) := Lib.hid (by rw [hw1]; exact HT.out)
        have HG1 : Hid (w.grownBy w1 (some g)) := Lib.hid (by rw [hw1]; exact gb_trans (gb_of (al1 _ _)) (gb_set _ _ _ _))
        clear hw1 HM HT
        go_wp2
        refine wp_loop_rounds 1 ?_
        rw [rounds_succ]
        go_wp2
        go_end0
        exact ⟨rfl, by have := HT1.out; simpa using this, HG1.out⟩
      | true =>
        obtain rfl := hs rfl
        clear hs hx
        go_enter Tryd.func60, Tryd.ntmps60
        go_wp2_with fail
        with_reducible refine HM.out.mono ?_
        rintro e w1 ⟨rfl, hw1⟩
        obtain ⟨c0, c1, c2⟩ := box_cells hgl hw1
        have HT1 : Hid (Tal w1 g (k + 1)) := Lib.hid (by rw [hw1]; exact HT.out)
        have HG1 : Hid (w.grownBy w1 (some g)) := Lib.hid (by rw [hw1]; exact gb_trans (gb_of (al1 _ _)) (gb_set _ _ _ _))
        clear hw1 HM HT
        go_wp2
        go_loopw [33] (fun i wr => ∃ q : Nat, q ≤ n ∧ i = .int .i64 q ∧ Hid (Tal wr g (k + 1 + ((xs.take q).map It.size).sum : Nat)) ∧ Hid (w.grownBy wr (some g))) (fun i _ => n - (intOf i).toNat)
        case atStart => exact ⟨0, Nat.zero_le _, rfl, Lib.hid (by have := HT1.out; simpa using this), Lib.hid HG1.out⟩
        case round =>
          obtain ⟨q, hq, rfl, HQ, HG⟩ := hrel
          have HBw := Lib.hid (gb_below HB0.out HG.out (Nat.le_refl _) hg)
          clear c0 c1 c2 HT1 HG1
          by_cases hlt : q < n
          · obtain ⟨x, b, off, A, N, C, hx, rfl, hb, hL, hI⟩ := H.out.at' q hlt
            obtain ⟨e0, e1, e2⟩ := hL.stays HBw.out hb
            have hsum := sum_le xs q x hx
            have HS := Lib.hid (sum_take xs q x hx)
            have HI := Lib.hid (HIh.out x (List.mem_of_getElem? hx) (around + 1) (k + 1 + ((xs.take q).map It.size).sum) g (wrap64 (ar + 1)) w0 (wr.alloc (.cells #[.bool x.l, .string x.s, .slice A N C] 63)) (itV x A N C) (by have := HAR.out; simp only [wrap64]; omega) ⟨A, N, C, rfl, hI⟩ (HBw.out.alloc HBw.out.size _) hg (HY.out x (List.mem_of_getElem? hx)) (by omega) (HQ.out.below (al1 _ _)))
            unfold itV at HI
            clear hL hI hx HIh hsum
            go_wp2_with fail
            with_reducible refine HI.out.mono ?_
            rintro e w2 ⟨rfl, ht2, hg2⟩
            have HT2 := Lib.hid ht2
            have HG2 := Lib.hid (gb_trans HG.out (gb_trans (gb_of (al1 _ _)) hg2))
            clear ht2 hg2
            go_wp2
            go_roundw
            case rel => exact ⟨q + 1, by omega, by go_num, Lib.hid (by rw [HS.out, ← Nat.add_assoc]; exact HT2.out), Lib.hid HG2.out⟩
            case measure => simp [intOf]; omega
          · obtain rfl : q = n := by omega
            clear HIh HY
            go_wp2
            go_end0
            refine ⟨rfl, ?_, HG.out⟩
            have := HQ.out
            rw [List.take_of_length_le (Nat.le_of_eq hlen)] at this
            rw [← Nat.add_assoc]
            exact this
end Rl
end Go.Proofs.YtoeblhdddehemaaDoor

/-
  An item's bytes; contracts of rlp.front and rlp.inside.
-/
namespace Go.Proofs.YtoeblhdddehemaaDoor
open Go.RowKit

namespace Rl
/-- ahead of the m bytes that are in an item -/
def frontL (l : Bool) (s : ByteArray) (m : Nat) : List UInt8 := if l = false ∧ m = 1 ∧ (s.data.toList.headD 0).toNat < 128 then [] else headL (min m 4294967296) l
def frontS (l : Bool) (s : ByteArray) (m : Nat) : ByteArray := ⟨(frontL l s m).toArray⟩
theorem clampH_nat (m : Nat) : clampH m = min m 4294967296 := by unfold clampH; omega
theorem frontS_head {l : Bool} {s : ByteArray} {m : Nat} (h : ¬ (l = false ∧ m = 1 ∧ (s.data.toList.headD 0).toNat < 128)) : frontS l s m = headS (min m 4294967296) l := by unfold frontS frontL headS; rw [if_neg h]
theorem frontS_none {l : Bool} {s : ByteArray} {m : Nat} (h : l = false ∧ m = 1 ∧ (s.data.toList.headD 0).toNat < 128) : frontS l s m = ⟨#[]⟩ := by unfold frontS frontL; rw [if_pos h]
theorem first_of {s : ByteArray} (h : 0 < s.size) : s.data.toList.headD 0 = s[0] := by
  obtain ⟨⟨l⟩⟩ := s
  cases l with
  | nil => simp [ByteArray.size] at h
  | cons c l => rfl

set_option maxRecDepth 100000 in
set_option maxHeartbeats 4000000 in
theorem front_any (x : It) (a : Option Addr) (n cap m : Nat) (hm : m < 2 ^ 63) (hx : x.l = false → m = x.s.size) (w : World) :
    Calls Tryd.prog 85 #[itV x a n cap, .int .i64 m] w fun e w' => e = .returned (.string (frontS x.l x.s m)) ∧ Below w.heap.size w w' := by
  obtain ⟨l, s, xs⟩ := x
  unfold itV
  dsimp only [It.l, It.s] at hx ⊢
  have hh := fun w => head_any m (by omega) l w
  rw [clampH_nat] at hh
  have HH := Lib.hid hh
  clear hh
  cases l with
  | true =>
    have HF := Lib.hid (frontS_head (l := true) (s := s) (m := m) (by simp))
    clear hx
    go_enter Tryd.func85, Tryd.ntmps85
    go_wp2_with fail
    with_reducible refine (HH.out _).mono ?_
    rintro e w1 ⟨rfl, hb⟩
    go_wp2
    go_ret
    exact ⟨by rw [HF.out]; rfl, below_step' (al1 _ _) hb⟩
  | false =>
    by_cases h1 : m = 1
    · have hs : s.size = 1 := by rw [← hx rfl, h1]
      have h0 : 0 < s.size := by omega
      have hf := first_of h0
      by_cases hc : s[0].toNat < 128
      · have HF := Lib.hid (frontS_none (l := false) (s := s) (m := m) ⟨rfl, h1, by rw [hf]; exact hc⟩)
        clear hx hf HH
        have hm1 : ((m : Int) == 1) = true := by simp; omega
        clear h1
        go_enter Tryd.func85, Tryd.ntmps85
        go_wp2
        go_ret
        exact ⟨by rw [HF.out]; rfl, al1 _ _⟩
      · have HF := Lib.hid (frontS_head (l := false) (s := s) (m := m) (by rw [hf]; omega))
        clear hx hf
        have hm1 : ((m : Int) == 1) = true := by simp; omega
        clear h1
        go_enter Tryd.func85, Tryd.ntmps85
        go_wp2_with fail
        with_reducible refine (HH.out _).mono ?_
        rintro e w1 ⟨rfl, hb⟩
        go_wp2
        go_ret
        exact ⟨by rw [HF.out]; rfl, below_step' (al1 _ _) hb⟩
    · have HF := Lib.hid (frontS_head (l := false) (s := s) (m := m) (by omega))
      have hm1 : ((m : Int) == 1) = false := by simp; omega
      clear hx
      go_enter Tryd.func85, Tryd.ntmps85
      go_wp2_with fail
      with_reducible refine (HH.out _).mono ?_
      rintro e w1 ⟨rfl, hb⟩
      go_wp2
      go_ret
      exact ⟨by rw [HF.out]; rfl, below_step' (al1 _ _) hb⟩
end Rl
namespace It
/-- an item's bytes -/
def bytes : It → List UInt8
  | .mk l s xs => Rl.frontL l s (s.data.toList ++ (xs.map bytes).flatten).length ++ (s.data.toList ++ (xs.map bytes).flatten)
termination_by x => SizeOf.sizeOf x
decreasing_by
  all_goals
    rename_i h
    have := List.sizeOf_lt_of_mem h
    simp
    omega
/-- .. those behind what stands ahead -/
def inner (x : It) : List UInt8 := x.s.data.toList ++ (x.xs.map bytes).flatten
theorem bytes_eq (x : It) : x.bytes = Rl.frontL x.l x.s x.inner.length ++ x.inner := by
  cases x
  rw [bytes]
  rfl
end It
namespace Rl
/-- the bytes of the first q -/
def firstL (xs : List It) (q : Nat) : List UInt8 := ((xs.take q).map It.bytes).flatten
theorem firstL_zero (xs : List It) : firstL xs 0 = [] := rfl
theorem firstL_step (xs : List It) (q : Nat) (x : It) (h : xs[q]? = some x) : firstL xs (q + 1) = firstL xs q ++ x.bytes := by
  unfold firstL
  rw [List.take_add_one, h]
  simp
theorem firstL_all (xs : List It) (n : Nat) (h : xs.length = n) : firstL xs n = (xs.map It.bytes).flatten := by
  unfold firstL
  rw [List.take_of_length_le (Nat.le_of_eq h)]
theorem firstL_le (xs : List It) (q : Nat) : (firstL xs q).length ≤ ((xs.map It.bytes).flatten).length := by
  have : (xs.map It.bytes).flatten = firstL xs q ++ ((xs.drop q).map It.bytes).flatten := by
    unfold firstL
    rw [← List.flatten_append, ← List.map_append, List.take_append_drop]
  rw [this, List.length_append]
  omega
theorem inner_le (x : It) : x.inner.length ≤ x.bytes.length := by
  rw [It.bytes_eq, List.length_append]
  omega
theorem inner_mk (l : Bool) (s : ByteArray) (xs : List It) : (It.mk l s xs).inner = s.data.toList ++ (xs.map It.bytes).flatten := rfl
theorem len_s (s : ByteArray) : s.data.toList.length = s.size := by rw [Array.length_toList]; rfl
theorem inner_text {around : Nat} {x : It} (h : Fits around x) (hl : x.l = false) : x.inner.length = x.s.size := by
  cases h with
  | mk ha hs hx h =>
    rw [hx hl, inner_mk, List.map_nil, List.flatten_nil, List.append_nil, len_s]
    rfl

set_option maxRecDepth 100000 in
set_option maxHeartbeats 4000000 in
theorem inside_any (x : It) : ∀ (around : Nat) (w : World) (v : Value), IsIt w x v → Fits around x → x.inner.length ≤ 1099511627776 →
    Calls Tryd.prog 86 #[v] w fun e w' => e = .returned (.int .i64 x.inner.length) ∧ Below w.heap.size w w' := by
  induction x using It.ind with
  | h l s xs ih =>
    rintro around w v ⟨a, n, cap, rfl, h⟩ hF hk
    have hm := h.max
    have hnc := h.le
    have hlen : xs.length = n := h.len
    unfold maxLen at hm
    cases hF with
    | mk ha hs hx hy =>
      rw [inner_mk, List.length_append, len_s] at hk ⊢
      have H := Lib.hid h
      have HY := Lib.hid hy
      have HIh := Lib.hid ih
      have HK := Lib.hid hk
      have hss : s.size ≤ 1099511627776 := by omega
      clear h hy ih hs hx hk
      unfold itV
      dsimp only [It.l, It.s, It.xs] at H ⊢
      go_enter Tryd.func86, Tryd.ntmps86
      go_wp2
      go_loopw [3, 13] (fun acc i wr => ∃ q k : Nat, q ≤ n ∧ i = .int .i64 q ∧ acc = .int .i64 k ∧ Hid (k = s.size + (firstL xs q).length) ∧ Below (w.heap.size + 1) (w.alloc (.cells #[.bool l, .string s, .slice a n cap] 63)) wr) (fun _ i _ => n - (intOf i).toNat)
      case atStart => exact ⟨0, s.size, Nat.zero_le _, rfl, rfl, Lib.hid rfl, Below.refl _ _⟩
      case round =>
        obtain ⟨q, k, hq, rfl, rfl, HQ, hB⟩ := hrel
        have HB := Lib.hid hB
        clear hB
        by_cases hlt : q < n
        · obtain ⟨x, b, off, A, N, C, hx, rfl, hb, hL, hI⟩ := H.out.at' q hlt
          have hBw := of_al HB.out
          obtain ⟨e0, e1, e2⟩ := hL.stays hBw hb
          have hst := firstL_step xs q x hx
          have hle := firstL_le xs (q + 1)
          have hk2 := HK.out
          have hkq := HQ.out
          have hin := inner_le x
          have hby : x.bytes.length = (frontL x.l x.s x.inner.length).length + x.inner.length := by
            rw [It.bytes_eq, List.length_append]
          rw [hst, List.length_append] at hle
          have HS : Hid (k + (frontL x.l x.s x.inner.length).length + x.inner.length = s.size + (firstL xs (q + 1)).length) := Lib.hid (by
            rw [hst, List.length_append]; omega)
          have hfx := HY.out x (List.mem_of_getElem? hx)
          have HI := Lib.hid (HIh.out x (List.mem_of_getElem? hx) (around + 1) (wr.alloc (.cells #[.bool x.l, .string x.s, .slice A N C] 63)) (itV x A N C) ⟨A, N, C, rfl, hI.stays (below_step' hBw (al1 _ _))⟩ hfx (by omega))
          have HF := Lib.hid (fun w => front_any x A N C x.inner.length (by omega) (fun e => inner_text hfx e) w)
          have hb1 : x.inner.length ≤ 1099511627776 := by omega
          have hb2 : (frontL x.l x.s x.inner.length).length ≤ 1099511627776 := by omega
          have hb3 : k ≤ 1099511627776 := by omega
          have hsz : (frontS x.l x.s x.inner.length).size = (frontL x.l x.s x.inner.length).length := rfl
          obtain ⟨m, hm'⟩ : ∃ m, x.inner.length = m := ⟨_, rfl⟩
          rw [hm'] at HI HF hb1 hb2 hsz HS
          obtain ⟨f, hf⟩ : ∃ f, frontS x.l x.s m = f := ⟨_, rfl⟩
          obtain ⟨p, hp⟩ : ∃ p, (frontL x.l x.s m).length = p := ⟨_, rfl⟩
          rw [hp] at hsz hb2 HS
          simp only [hf] at HF hsz
          unfold itV at HI HF
          clear hL hI hx HIh HY hst hle hk2 hkq hin hby hfx hm' hf hp
          go_wp2_with fail
          with_reducible refine HI.out.mono ?_
          rintro e w2 ⟨rfl, hb2'⟩
          have d0 : w2.cell? ⟨wr.heap.size, 0, none⟩ = some (.bool x.l) := by rw [hb2'.cell (p := ⟨wr.heap.size, 0, none⟩) (by simp), World.cell?_alloc_mark]; rfl
          have d1 : w2.cell? ⟨wr.heap.size, 1, none⟩ = some (.string x.s) := by rw [hb2'.cell (p := ⟨wr.heap.size, 1, none⟩) (by simp), World.cell?_alloc_mark]; rfl
          have d2 : w2.cell? ⟨wr.heap.size, 2, none⟩ = some (.slice A N C) := by rw [hb2'.cell (p := ⟨wr.heap.size, 2, none⟩) (by simp), World.cell?_alloc_mark]; rfl
          have HB2 := Lib.hid (al_step HB.out (below_step' (al1 _ _) hb2'))
          clear hb2'
          go_wp2_with fail
          with_reducible refine (HF.out _).mono ?_
          rintro e w3 ⟨rfl, hb3'⟩
          have HB3 := Lib.hid (al_step HB2.out hb3')
          clear hb3'
          go_wp2
          go_roundw
          case rel => exact ⟨q + 1, k + p + m, by omega, by go_num, by go_num, Lib.hid HS.out, HB3.out⟩
          case measure => simp [intOf]; omega
        · obtain rfl : q = n := by omega
          clear HIh HY
          go_wp2
          go_ret
          refine ⟨?_, of_al HB.out⟩
          have := HQ.out
          rw [firstL_all xs _ hlen] at this
          rw [this]
          rfl
end Rl
end Go.Proofs.YtoeblhdddehemaaDoor

/-
  The contract of rlp.lay: an item's bytes go into a builder.
-/
namespace Go.Proofs.YtoeblhdddehemaaDoor
open Go.RowKit

namespace Rl
theorem own_others {w w' : World} {b g : Nat} {cs : Array Value} (h : Rg.Own w b cs 63) (hk : Lib.OthersKept 5 (some g) w w') (hne : b ≠ g) : Rg.Own w' b cs 63 := by
  have h1 := hk b _ h.2 (fun e => hne (Option.some.inj e)) (fun c fz e => by cases e)
  exact ⟨(Array.getElem?_eq_some_iff.1 h1).1, h1⟩

set_option maxRecDepth 100000 in
set_option maxHeartbeats 8000000 in
theorem lay_any (x : It) : ∀ (around g : Nat) (w0 w : World) (v : Value) (bs : List UInt8), IsIt w0 x v → Below w0.heap.size w0 w → Fits around x → bs.length + x.bytes.length ≤ 1099511627776 → Bu.Is w0.heap.size g (Lib.byteCells bs) w →
    Calls Tryd.prog 61 #[.pointer (some ⟨g, 0, none⟩), v] w fun e w' => e = .returned (.tuple #[]) ∧ Bu.Is w0.heap.size g (Lib.byteCells (bs ++ x.bytes)) w' ∧ Below w0.heap.size w0 w' := by
  induction x using It.ind with
  | h l s xs ih =>
    rintro around g w0 w v bs ⟨a, n, cap, rfl, h⟩ hB hF hk hIs
    have hm := h.max
    have hnc := h.le
    have hlen : xs.length = n := h.len
    unfold maxLen at hm
    have hby := It.bytes_eq (.mk l s xs)
    have hin := inner_le (.mk l s xs)
    have hfr := fun w => front_any (.mk l s xs) a n cap (It.mk l s xs).inner.length (by omega) (fun e => inner_text hF e) w
    have hinn := fun w1 (hw : Below w0.heap.size w0 w1) => inside_any (.mk l s xs) around w1 (itV (.mk l s xs) a n cap) ⟨a, n, cap, rfl, h.stays hw⟩ hF (by omega)
    cases hF with
    | mk ha hs hx hy =>
      have HIn := Lib.hid hinn
      have HFr := Lib.hid hfr
      have H := Lib.hid h
      have HY := Lib.hid hy
      have HIh := Lib.hid ih
      have HBw := Lib.hid hB
      have hown : Rg.Own (w.alloc (.cells (itC (.mk l s xs) a n cap) 63)) w.heap.size (itC (.mk l s xs) a n cap) 63 := Rg.Own.new _ _ _
      replace hIs := hIs.kept (Bu.grown_below (al1 w (.cells (itC (.mk l s xs) a n cap) 63)))
      replace hB := hB.alloc hB.size (.cells (itC (.mk l s xs) a n cap) 63)
      rw [hby, List.length_append, inner_mk, List.length_append, len_s] at hk
      have HL1 : Hid ((Lib.byteCells bs).length + (frontS l s (It.mk l s xs).inner.length).size ≤ 140737488355328) := Lib.hid (by
        rw [Lib.byteCells_length]
        show bs.length + (frontL l s (It.mk l s xs).inner.length).length ≤ _
        rw [inner_mk, List.length_append, len_s]
        dsimp only [It.l, It.s] at hk
        omega)
      clear h hy ih hinn hfr hs hx ha hin
      unfold itV at HIn HFr ⊢
      dsimp only [It.l, It.s, It.xs, itC] at H HIn HFr hown hIs hB ⊢
      go_enter Tryd.func61, Tryd.ntmps61
      go_wp2_with fail
      replace hIs : Bu.Is w0.heap.size g (Lib.byteCells bs) (w.alloc (.cells #[.bool l, .string s, .slice a n cap] 63)).drew := hIs
      refine wp_region_noPanic ?_
      refine wp_region_held_drew (S := fun w' => Below w0.heap.size w0 w' ∧ Rg.Own w' w.heap.size (itC (.mk l s xs) a n cap) 63) (by kernel_rfl) (⟨hB.drew, hown.drew⟩) (fun hHeld => ?_)
      refine Rg.takeL (i := 0) (v := ?_) rfl (by kernel_rfl) (by kernel_rfl) (by kernel_rfl) (fun _ _ _ h => h) (Or.inl ⟨by rfl, ?_⟩) (by assumption) ?_
      rotate_left
      · (intro wz hSw; (try dsimp only at hSw); go_simp <;> with_reducible rfl)
      try simp only [Act.put, List.setIfInBounds_toArray, List.set_cons_zero, List.set_cons_succ]
      refine Rg.takeL (i := 1) (v := ?_) rfl (by kernel_rfl) (by kernel_rfl) (by kernel_rfl) (fun _ _ _ h => h) (Or.inl ⟨by rfl, ?_⟩) (by assumption) ?_
      rotate_left
      · (intro wz hSw; obtain ⟨z0, z1, z2⟩ := lies_row hSw.2.2; dsimp only [It.l, It.s, It.xs] at z0 z1 z2; go_simp <;> with_reducible rfl)
      try simp only [Act.put, List.setIfInBounds_toArray, List.set_cons_zero, List.set_cons_succ]
      refine Rg.takeL (i := 2) (v := ?_) rfl (by kernel_rfl) (by kernel_rfl) (by kernel_rfl) (fun _ _ _ h => h) (Or.inl ⟨by rfl, ?_⟩) (by assumption) ?_
      rotate_left
      · (intro wz hSw; obtain ⟨z0, z1, z2⟩ := lies_row hSw.2.2; dsimp only [It.l, It.s, It.xs] at z0 z1 z2; go_simp <;> with_reducible rfl)
      try simp only [Act.put, List.setIfInBounds_toArray, List.set_cons_zero, List.set_cons_succ]
      refine wpAnyH_ready (rs := [3]) (by kernel_rfl) (by simp) ?_
      refine Rg.readyL (i := 3) rfl (fun K hK => ?_)
      go_simp
      go_at_call 86
      (with_reducible refine (HIn.out _ hHeld.1).mono ?_)
      rintro e wv0 ⟨rfl, hbx⟩
      replace hIs := hIs.kept (Bu.grown_below hbx)
      refine hK.out _ _ ?_ (fun hHeld => ?_)
      · exact ⟨below_step hHeld.1 hbx (Nat.le_refl _), hHeld.2.below hbx⟩
      clear hK K hbx
      try simp only [Act.put, List.setIfInBounds_toArray, List.set_cons_zero, List.set_cons_succ]
      refine wpAnyH_ready (rs := [4]) (by kernel_rfl) (by simp) ?_
      refine Rg.readyL (i := 4) rfl (fun K hK => ?_)
      go_simp
      go_at_call 85
      (with_reducible refine (HFr.out _).mono ?_)
      rintro e wv1 ⟨rfl, hbx⟩
      replace hIs := hIs.kept (Bu.grown_below hbx)
      refine hK.out _ _ ?_ (fun hHeld => ?_)
      · exact ⟨below_step hHeld.1 hbx (Nat.le_refl _), hHeld.2.below hbx⟩
      clear hK K hbx
      try simp only [Act.put, List.setIfInBounds_toArray, List.set_cons_zero, List.set_cons_succ]
      refine wpAnyH_ready (rs := [5]) (by kernel_rfl) (by simp) ?_
      refine Rg.readyL (i := 5) rfl (fun K hK => ?_)
      go_simp
      go_at_call 84
      (with_reducible refine (Bu.write _ hIs HL1.out hHeld.1.size).mono ?_)
      rintro e wv9 ⟨rfl, hIs9, hbx, hok⟩
      have hne := hIs.not_at hHeld.2.2 (by decide)
      have hown := own_others hHeld.2 hok hne
      refine hK.out _ _ ?_ (fun hHeld => ?_)
      · exact ⟨hHeld.1.trans hbx, hown⟩
      clear hK K
      try simp only [Act.put, List.setIfInBounds_toArray, List.set_cons_zero, List.set_cons_succ]
      refine wpAnyH_done (by kernel_rfl) ?_ _
      refine NoPanic.normal ?_
      clear hB hIs hbx hok hne hown
      have HL9 := Lib.hid hHeld
      have HIs9 := Lib.hid hIs9
      obtain ⟨c0, c1, c2⟩ := lies_row hHeld.2.2
      dsimp only [It.l, It.s, It.xs] at c0 c1 c2
      clear hHeld hIs9
      go_wp2_with fail
      obtain ⟨P, hP, hP1⟩ : ∃ P, P = bs ++ frontL l s (It.mk l s xs).inner.length ++ s.data.toList ∧ P.length + (xs.map It.bytes).flatten.length ≤ 1099511627776 := ⟨_, rfl, by
        rw [List.length_append, List.length_append, len_s, inner_mk, List.length_append, len_s]
        dsimp only [It.l, It.s] at hk
        omega⟩
      have HP : Hid (P ++ (xs.map It.bytes).flatten = bs ++ (It.mk l s xs).bytes) := Lib.hid (by rw [hP, hby]; simp [inner_mk, It.l, It.s])
      have HI9 : Hid (Bu.Is w0.heap.size g (Lib.byteCells (bs ++ frontL l s (It.mk l s xs).inner.length)) wv9) := Lib.hid (by
        have := HIs9.out
        rw [Lib.strCells_eq, ← Lib.byteCells_append] at this
        exact this)
      have HL2 : Hid ((Lib.byteCells (bs ++ frontL l s (It.mk l s xs).inner.length)).length + s.size ≤ 140737488355328) := Lib.hid (by
        have := congrArg List.length hP
        rw [List.length_append, len_s] at this
        rw [Lib.byteCells_length]
        omega)
      have HE : Hid (Lib.byteCells (bs ++ frontL l s (It.mk l s xs).inner.length) ++ Lib.strCells s = Lib.byteCells P) := Lib.hid (by rw [hP, Lib.strCells_eq, ← Lib.byteCells_append])
      have HPl := Lib.hid hP1
      clear hP hP1 hk hby HIs9 HFr HIn HL1
      with_reducible refine (Bu.write s HI9.out HL2.out HL9.out.1.size).mono ?_
      rintro e wv8 ⟨rfl, hIs8, hb8, hok8⟩
      rw [HE.out] at hIs8
      have hown8 := own_others HL9.out.2 hok8 (HI9.out.not_at HL9.out.2.2 (by decide))
      obtain ⟨d0, d1, d2⟩ := lies_row hown8.2
      dsimp only [It.l, It.s, It.xs] at d0 d1 d2
      have HIs8 := Lib.hid hIs8
      have HB8 := Lib.hid (HL9.out.1.trans hb8)
      clear hIs8 hb8 hok8 hown8 c0 c1 c2
      go_wp2
      go_loopw [19] (fun i wr => ∃ q : Nat, q ≤ n ∧ i = .int .i64 q ∧ Hid (Bu.Is w0.heap.size g (Lib.byteCells (P ++ firstL xs q)) wr) ∧ Hid (Below w0.heap.size w0 wr)) (fun i _ => n - (intOf i).toNat)
      case atStart => exact ⟨0, Nat.zero_le _, rfl, Lib.hid (by rw [firstL_zero, List.append_nil]; exact HIs8.out), Lib.hid HB8.out⟩
      case round =>
        obtain ⟨q, hq, rfl, HQ, HB⟩ := hrel
        clear d0 d1 d2
        by_cases hlt : q < n
        · obtain ⟨x, b, off, A, N, C, hx, rfl, hb, hL, hI⟩ := H.out.at' q hlt
          obtain ⟨e0, e1, e2⟩ := hL.stays HB.out hb
          have hst := firstL_step xs q x hx
          have hle := firstL_le xs (q + 1)
          have hPl := HPl.out
          rw [hst, List.length_append] at hle
          have HS := Lib.hid hst
          have HI := Lib.hid (HIh.out x (List.mem_of_getElem? hx) (around + 1) g w0 (wr.alloc (.cells #[.bool x.l, .string x.s, .slice A N C] 63)) (itV x A N C) (P ++ firstL xs q) ⟨A, N, C, rfl, hI⟩ (HB.out.alloc HB.out.size _) (HY.out x (List.mem_of_getElem? hx)) (by rw [List.length_append]; omega) (HQ.out.kept (Bu.grown_below (al1 _ _))))
          unfold itV at HI
          clear hL hI hx HIh HY hst hle hPl
          go_wp2_with fail
          with_reducible refine HI.out.mono ?_
          rintro e w2 ⟨rfl, hI2, hb2⟩
          have HI2 := Lib.hid hI2
          have HB2 := Lib.hid hb2
          clear hI2 hb2
          go_wp2
          go_roundw
          case rel => exact ⟨q + 1, by omega, by go_num, Lib.hid (by rw [HS.out, ← List.append_assoc]; exact HI2.out), Lib.hid HB2.out⟩
          case measure => simp [intOf]; omega
        · obtain rfl : q = n := by omega
          clear HIh HY
          go_wp2
          go_end0
          refine ⟨rfl, ?_, ?_⟩
          · have := HQ.out
            rw [firstL_all xs _ hlen, HP.out] at this
            exact this
          · exact HB.out
end Rl
end Go.Proofs.YtoeblhdddehemaaDoor

/-
  The contract of rlp.Put, of an item that may be.
-/
namespace Go.Proofs.YtoeblhdddehemaaDoor
set_option maxRecDepth 20000
open Go.RowKit

namespace Rl
open Pk
theorem own_gb {w w' : World} {b g : Nat} {cs : Array Value} {T : TypeId} (h : Rg.Own w b cs T) (hg : w.grownBy w' (some g)) (hne : b ≠ g) : Rg.Own w' b cs T :=
  ⟨Nat.lt_of_lt_of_le h.1 hg.size, (hg.block b h.1 (fun e => hne (Option.some.inj e))).trans h.2⟩
theorem own_set {w : World} {b g : Nat} {cs : Array Value} {T : TypeId} (h : Rg.Own w b cs T) (v : Value) (hne : b ≠ g) : Rg.Own (w.setCell ⟨g, 0, none⟩ v) b cs T := own_gb h (gb_set w g 0 v) hne
theorem own_one {w : World} {b : Nat} {v : Value} {T : TypeId} (h : Rg.Own w b #[v] T) : w.cell? ⟨b, 0, none⟩ = some v ∧ w.frozen? ⟨b, 0, none⟩ = false := by
  refine ⟨?_, ?_⟩
  · simp [World.cell?, h.2]
  · simp [World.frozen?, h.2]

set_option maxHeartbeats 2000000 in
theorem putDo_any (x : It) (g b : Nat) (w0 w : World) (a : Option Addr) (n cap : Nat) (h : IsIts w0 x.xs a n cap) (hB : Below w0.heap.size w0 w) (hg : w0.heap.size ≤ g) (hF : Fits 0 x) (hk : x.size ≤ 4096) (hT : Tal w g 0) (hO : Rg.Own w b (itC x a n cap) 63) :
    Calls Tryd.prog 59 #[.pointer (some ⟨g, 0, none⟩), .pointer (some ⟨b, 0, none⟩)] w fun e w' => e = .returned (.tuple #[]) ∧ w.grownBy w' (some g) := by
  obtain ⟨c0, c1, c2⟩ := lies_row hO.2
  have HC := Lib.hid (check_any x 0 0 g 0 w0 w (itV x a n cap) rfl ⟨a, n, cap, rfl, h⟩ hB hg hF (by omega) hT)
  unfold itV at HC
  clear h hB hF hk hT hO
  go_enter Tryd.func59, Tryd.ntmps59
  go_wp2_with fail
  with_reducible refine HC.out.mono ?_
  rintro e w1 ⟨rfl, _, hg1⟩
  have HG := Lib.hid hg1
  clear hg1
  go_wp2
  go_end0
  exact ⟨rfl, HG.out⟩

set_option maxHeartbeats 4000000 in
theorem put_any (x : It) (w : World) (v : Value) (h : IsIt w x v) (hF : Fits 0 x) (hk : x.size ≤ 4096) (hl : x.bytes.length ≤ 1099511627776) :
    Calls Tryd.prog 36 #[v] w fun e w' => e = .returned (.tuple #[.string ⟨x.bytes.toArray⟩, .int .i64 0]) ∧ Below w.heap.size w w' := by
  obtain ⟨a, n, cap, rfl, h⟩ := h
  have hmf : ∀ (fn : Fn) (first cap : Array Value) (w : World), (Instr.makeFunc fn first cap).run Tryd.prog w = .ok (.func fn first cap) w := fun _ _ _ _ => rfl
  obtain ⟨w2, hw2⟩ : ∃ w2, w2 = (w.alloc (.cells (itC x a n cap) 63)).alloc (.cells #[.int .i64 0] 88) := ⟨_, rfl⟩
  have ho1 : Rg.Own w2 w.heap.size (itC x a n cap) 63 := by rw [hw2]; exact (Rg.Own.new _ _ _).below (al1 _ _)
  have ho2 : Rg.Own w2 (w.heap.size + 1) #[.int .i64 0] 88 := by
    rw [hw2]
    have := Rg.Own.new (w.alloc (.cells (itC x a n cap) 63)) #[.int .i64 0] 88
    simpa using this
  have hb2 : Below w.heap.size w w2 := by rw [hw2]; exact al2 _ _ _
  have hs2 : w2.heap.size = w.heap.size + 2 := by rw [hw2]; simp
  have hoE : Rg.Own (w2.alloc (.cells #[.int .i64 0] 39)) w2.heap.size #[.int .i64 0] 39 := Rg.Own.new _ _ _
  have ho1' := ho1.below (al1 w2 (.cells #[.int .i64 0] 39))
  have ho2' := ho2.below (al1 w2 (.cells #[.int .i64 0] 39))
  have hbE := hb2.alloc hb2.size (.cells #[.int .i64 0] 39)
  have HC := Lib.hid (caught_ok 59 #[.pointer (some ⟨w.heap.size + 1, 0, none⟩), .pointer (some ⟨w.heap.size, 0, none⟩)] (by intro wx; kernel_rfl) w2
    (fun w' => (w2.alloc (.cells #[.int .i64 0] 39)).grownBy w' (some (w.heap.size + 1))) (by
      refine (putDo_any x (w.heap.size + 1) w.heap.size w _ a n cap h hbE (by omega) hF hk (own_one ho2') ho1').mono ?_
      rintro e w' ⟨rfl, hg⟩
      exact ⟨rfl, own_one (own_gb hoE hg (by omega)), hg⟩))
  have hlay := fun (w' : World) hb hIs => lay_any x 0 (w'.heap.size) w (w'.alloc (.cells #[.pointer none, .slice none 0 0] 93)) (itV x a n cap) [] ⟨a, n, cap, rfl, h⟩ hb hF (by simpa using hl) hIs
  have HLy := Lib.hid hlay
  clear hlay h hF hk hl
  unfold itV at HLy ⊢
  unfold itC at hw2
  go_enter Tryd.func36, Tryd.ntmps36
  go_wp2_with fail
  rw [← hw2]
  refine HC.out.mono ?_
  rintro e w3 ⟨rfl, w1, hg1, hw3⟩
  have ho3 : Rg.Own w3 w.heap.size (itC x a n cap) 63 := by rw [hw3]; exact own_set (own_gb ho1' hg1 (by omega)) _ (by omega)
  have hb3 : Below w.heap.size w w3 := by
    rw [hw3]
    exact (gb_below hbE hg1 (Nat.le_refl _) (by omega)).setCell (p := ⟨w2.heap.size, 0, none⟩) (by show w.heap.size ≤ w2.heap.size; omega) _
  have HB3 := Lib.hid hb3
  have hB3 : Below w.heap.size w (w3.alloc (.cells #[.pointer none, .slice none 0 0] 93)) := hb3.alloc hb3.size _
  have HLx := Lib.hid (HLy.out w3 hB3 (Bu.fresh (b := w3.heap.size) hb3.size (heap_alloc_new _ _)))
  obtain ⟨c0, c1, c2⟩ := lies_row (ho3.below (al1 w3 (.cells #[.pointer none, .slice none 0 0] 93))).2
  clear hw3 ho3 hb3 hB3 HLy HC hg1 hbE ho2' ho1' hoE hs2 hb2 ho2 ho1 hw2
  go_wp2_with fail
  with_reducible refine HLx.out.mono ?_
  rintro e w4 ⟨rfl, hI4, hb4⟩
  rw [List.nil_append] at hI4
  have HI4 := Lib.hid hI4
  have HB4 := Lib.hid hb4
  clear hI4 hb4 c0 c1 c2 HLx
  go_wp2_with fail
  with_reducible refine (Bu.text HI4.out HB4.out.size).mono ?_
  rintro e w5 ⟨rfl, hb5⟩
  have HB5 := Lib.hid (HB4.out.trans hb5)
  clear hb5
  go_wp2
  go_ret2
  exact ⟨rfl, HB5.out⟩
end Rl
end Go.Proofs.YtoeblhdddehemaaDoor

/-
  What reading tells of bytes: the item that they begin with, or what is wrong; the items that they are.
-/
namespace Go.Proofs.YtoeblhdddehemaaDoor
set_option maxRecDepth 20000
open Go.RowKit

namespace Rl
mutual
/-- the item that bytes begin with, how many bytes it has, how many items were met -/
def readL : List UInt8 → Nat → Nat → Except Int (It × Nat × Nat)
  | [], around, k => if 64 < around then .error 17 else if 4096 < k + 1 then .error 4 else .error 5
  | c :: t, around, k =>
    if 64 < around then .error 17 else if 4096 < k + 1 then .error 4 else
    match headE (c :: t) with
    | .error e => .error e
    | .ok (true, a, v) => if t.length + 1 - a < v then .error 5 else
      match allL ((t.drop (a - 1)).take v) (around + 1) (k + 1) with
      | .error e => .error e
      | .ok (xs, k') => .ok (.mk true ⟨#[]⟩ xs, a + v, k')
    | .ok (false, a, v) => if t.length + 1 - a < v then .error 5 else
      if a = 1 ∧ v = 1 ∧ (t.headD 0).toNat < 128 then .error 6 else .ok (.mk false ⟨(((c :: t).drop a).take v).toArray⟩ [], a + v, k + 1)
termination_by s => (s.length, 0)
decreasing_by
  apply Prod.Lex.left
  rw [List.length_take, List.length_drop, List.length_cons]
  omega
/-- the items that bytes are -/
def allL : List UInt8 → Nat → Nat → Except Int (List It × Nat)
  | [], _, k => .ok ([], k)
  | c :: t, around, k =>
    match readL (c :: t) around k with
    | .error e => .error e
    | .ok (x, n, k') =>
      match allL (t.drop (n - 1)) around k' with
      | .error e => .error e
      | .ok (xs, k'') => .ok (x :: xs, k'')
termination_by s => (s.length, 1)
decreasing_by
  · apply Prod.Lex.right
    omega
  · apply Prod.Lex.left
    rw [List.length_drop, List.length_cons]
    omega
end

theorem ok_inj {α β : Type} {x y : α} (h : (Except.ok x : Except β α) = .ok y) : x = y := by cases h; rfl
theorem headE_props {c : UInt8} {t : List UInt8} {l : Bool} {a v : Nat} (h : headE (c :: t) = .ok (l, a, v)) : a ≤ t.length + 1 ∧ 1 ≤ a + v ∧ v < 2 ^ 64 ∧ a ≤ 9 ∧ (l = true → 1 ≤ a) := by
  have hc := c.toNat_lt
  obtain ⟨M, hM, hM2⟩ : ∃ M, (if 192 ≤ c.toNat then 192 else 128) = M ∧ (M = 192 ∨ M = 128 ∧ c.toNat < 192) := ⟨_, rfl, by
    by_cases e : 192 ≤ c.toNat
    · exact .inl (if_pos e)
    · exact .inr ⟨if_neg e, by omega⟩⟩
  dsimp only [headE] at h
  rw [hM] at h
  clear hM
  by_cases h1 : c.toNat < 128
  · rw [if_pos h1] at h
    have := ok_inj h
    simp only [Prod.mk.injEq] at this
    obtain ⟨rfl, rfl, rfl⟩ := this
    refine ⟨by omega, by omega, by omega, by omega, fun e => by cases e⟩
  · rw [if_neg h1] at h
    by_cases h2 : c.toNat - M ≤ 55
    · rw [if_pos h2] at h
      have := ok_inj h
      simp only [Prod.mk.injEq] at this
      obtain ⟨rfl, rfl, rfl⟩ := this
      refine ⟨by omega, by omega, by omega, by omega, fun _ => by omega⟩
    · rw [if_neg h2] at h
      by_cases h3 : t.length < c.toNat - M - 55
      · rw [if_pos h3] at h; cases h
      · rw [if_neg h3] at h
        by_cases h4 : t.headD 0 = 0 ∨ valB (t.take (c.toNat - M - 55)) ≤ 55
        · rw [if_pos h4] at h; cases h
        · rw [if_neg h4] at h
          have := ok_inj h
          simp only [Prod.mk.injEq] at this
          obtain ⟨rfl, rfl, rfl⟩ := this
          have hl := valB_lt (t.take (c.toNat - M - 55))
          have h8 : (t.take (c.toNat - M - 55)).length ≤ 8 := by
            rw [List.length_take]; omega
          refine ⟨by omega, by omega, ?_, by omega, fun _ => by omega⟩
          exact Nat.lt_of_lt_of_le hl (Nat.le_trans (Nat.pow_le_pow_right (by omega) h8) (by decide))

/-- of what is read -/
theorem props (N : Nat) : (∀ (s : List UInt8) (around k : Nat) (x : It) (n k' : Nat), s.length ≤ N → readL s around k = .ok (x, n, k') → 1 ≤ n ∧ n ≤ s.length ∧ k < k' ∧ k' ≤ 4096) ∧
    (∀ (s : List UInt8) (around k : Nat) (xs : List It) (k' : Nat), s.length ≤ N → k ≤ 4096 → allL s around k = .ok (xs, k') → k + xs.length ≤ k' ∧ k' ≤ 4096) := by
  induction N using Nat.strongRecOn with
  | ind N ih =>
    have hread : ∀ (s : List UInt8) (around k : Nat) (x : It) (n k' : Nat), s.length ≤ N → readL s around k = .ok (x, n, k') → 1 ≤ n ∧ n ≤ s.length ∧ k < k' ∧ k' ≤ 4096 := by
      intro s around k x n k' hN h
      cases s with
      | nil =>
        rw [readL] at h
        split at h
        · cases h
        · split at h <;> cases h
      | cons c t =>
        rw [readL] at h
        split at h
        · cases h
        · split at h
          · cases h
          · rename_i hk
            split at h
            · cases h
            · rename_i a v hh
              obtain ⟨h1, h2, h3, h4, h5⟩ := headE_props hh
              have h6 := h5 rfl
              split at h
              · cases h
              · rename_i hv
                split at h
                · cases h
                · rename_i xs k2 ha
                  have := ok_inj h
                  simp only [Prod.mk.injEq] at this
                  obtain ⟨rfl, rfl, rfl⟩ := this
                  rw [List.length_cons] at hN ⊢
                  obtain ⟨g1, g2⟩ := (ih (N - 1) (by omega)).2 _ _ _ _ _ (by rw [List.length_take, List.length_drop]; omega) (by omega) ha
                  omega
            · rename_i a v hh
              obtain ⟨h1, h2, h3, h4, h5⟩ := headE_props hh
              split at h
              · cases h
              · rename_i hv
                split at h
                · cases h
                · have := ok_inj h
                  simp only [Prod.mk.injEq] at this
                  obtain ⟨rfl, rfl, rfl⟩ := this
                  rw [List.length_cons]
                  omega
    refine ⟨hread, fun s around k xs k' hN hk h => ?_⟩
    cases s with
    | nil =>
      rw [allL] at h
      have := ok_inj h
      simp only [Prod.mk.injEq] at this
      obtain ⟨rfl, rfl⟩ := this
      simp
      omega
    | cons c t =>
      rw [allL] at h
      split at h
      · cases h
      · rename_i x n k2 hr
        obtain ⟨g1, g2, g3, g4⟩ := hread _ _ _ _ _ _ hN hr
        split at h
        · cases h
        · rename_i ys k3 ha
          have := ok_inj h
          simp only [Prod.mk.injEq] at this
          obtain ⟨rfl, rfl⟩ := this
          rw [List.length_cons] at hN
          obtain ⟨e1, e2⟩ := (ih (N - 1) (by omega)).2 _ _ _ _ _ (by rw [List.length_drop]; omega) g4 ha
          rw [List.length_cons]
          omega
end Rl
end Go.Proofs.YtoeblhdddehemaaDoor

/-
  The contract of (*rlp.tally).read, where what is within a list is read as it ought to be.
-/
namespace Go.Proofs.YtoeblhdddehemaaDoor
open Go.RowKit

namespace Rl
open Pk
/-- what read tells -/
def ReadTo (s : ByteArray) (g : Nat) (ar : Int) (w : World) : Except Int (It × Nat × Nat) → Prop
  | .error c => Calls Tryd.prog 95 #[.pointer (some ⟨g, 0, none⟩), .string s, .int .i64 ar] w fun e w' => e = .panicked [errP c] ∧ w.grownBy w' (some g)
  | .ok (x, n, k') => Calls Tryd.prog 95 #[.pointer (some ⟨g, 0, none⟩), .string s, .int .i64 ar] w fun e w' =>
      ∃ a nn cap, e = .returned (.tuple #[itV x a nn cap, .int .i64 n]) ∧ ItsIn w.heap.size w' x.xs a nn cap ∧ Tal w' g k' ∧ w.grownBy w' (some g)
def ReadC (s : ByteArray) : Prop := ∀ (around k g : Nat) (ar : Int) (w : World), ar = around → around ≤ 65 → k ≤ 4096 → Tal w g k → ReadTo s g ar w (readL s.data.toList around k)
/-- what all tells -/
def AllPost (g : Nat) (w : World) : Except Int (List It × Nat) → Ending → World → Prop
  | .error c => fun e w' => e = .panicked [errP c] ∧ w.grownBy w' (some g)
  | .ok (xs, k') => fun e w' => ∃ a nn cap, e = .returned (.slice a nn cap) ∧ ItsIn w.heap.size w' xs a nn cap ∧ Tal w' g k' ∧ w.grownBy w' (some g)
def AllTo (s : ByteArray) (g : Nat) (ar : Int) (w : World) (r : Except Int (List It × Nat)) : Prop := Calls Tryd.prog 107 #[.pointer (some ⟨g, 0, none⟩), .string s, .int .i64 ar] w (AllPost g w r)
def AllC (s : ByteArray) : Prop := ∀ (around k g : Nat) (ar : Int) (w : World), ar = around → around ≤ 65 → k ≤ 4096 → Tal w g k → AllTo s g ar w (allL s.data.toList around k)

theorem readL_eq (s : List UInt8) (around k : Nat) : readL s around k =
    if 64 < around then .error 17 else if 4096 < k + 1 then .error 4 else
    match headE s with
    | .error e => .error e
    | .ok (l, a, v) => if s.length - a < v then .error 5 else
      if l then (match allL ((s.drop a).take v) (around + 1) (k + 1) with
        | .error e => .error e
        | .ok (xs, k') => .ok (.mk true ⟨#[]⟩ xs, a + v, k'))
      else if a = 1 ∧ v = 1 ∧ ((s.drop 1).headD 0).toNat < 128 then .error 6 else .ok (.mk false ⟨((s.drop a).take v).toArray⟩ [], a + v, k + 1) := by
  cases s with
  | nil => rw [readL]; rfl
  | cons c t =>
    rw [readL]
    split
    · rfl
    · split
      · rfl
      · cases hh : headE (c :: t) with
        | error e => rfl
        | ok r =>
          obtain ⟨l, a, v⟩ := r
          cases l with
          | false => rfl
          | true =>
            have h1 := (headE_props hh).2.2.2.2 rfl
            have h2 : (c :: t).drop a = t.drop (a - 1) := by
              obtain ⟨b, rfl⟩ : ∃ b, a = b + 1 := ⟨a - 1, by omega⟩
              rfl
            dsimp only
            rw [h2]
            rfl

/-- the world behind meet -/
theorem met {w w1 : World} {g k : Nat} (hT : Tal w g k) (h : w1 = (w.alloc (.cells #[.bool false, .string ⟨#[]⟩, .slice none 0 0] 63)).setCell ⟨g, 0, none⟩ (.int .i64 (k + 1))) :
    Rg.Own w1 w.heap.size (itC it0 none 0 0) 63 ∧ Tal w1 g (k + 1 : Nat) ∧ w.grownBy w1 (some g) := by
  have hlt := hT.lt
  refine ⟨?_, ?_, ?_⟩
  · rw [h]; exact own_set (Rg.Own.new w (itC it0 none 0 0) 63) _ (by omega)
  · rw [h]; exact (hT.below (al1 w (.cells (itC it0 none 0 0) 63))).set (k + 1)
  · rw [h]; exact gb_trans (gb_of (al1 _ _)) (gb_set _ _ _ _)

set_option maxRecDepth 100000 in
set_option maxHeartbeats 4000000 in
theorem read_deep (s : ByteArray) (around k g : Nat) (ar : Int) (w : World) (har : ar = around) (ha : 64 < around) (hk : k ≤ 4096) (hT : Tal w g k) : ReadTo s g ar w (.error 17) := by
  have HM := Lib.hid (meet_deep g ar k (by omega) (by omega) (by omega) (w.alloc (.cells #[.bool false, .string ⟨#[]⟩, .slice none 0 0] 63)) (hT.below (al1 _ _)))
  have HT := Lib.hid hT
  clear har hT
  unfold ReadTo
  go_enter Tryd.func95, Tryd.ntmps95
  go_wp2_with fail
  with_reducible refine HM.out.mono ?_
  rintro e w1 ⟨rfl, hw1⟩
  have HG := Lib.hid (met HT.out hw1).2.2
  clear hw1
  go_wp2
  simp [bodyPost]
  exact HG.out
set_option maxRecDepth 100000 in
set_option maxHeartbeats 4000000 in
theorem read_big (s : ByteArray) (around k g : Nat) (ar : Int) (w : World) (har : ar = around) (ha : around ≤ 64) (hk : k ≤ 4096) (hk2 : 4096 < k + 1) (hT : Tal w g k) : ReadTo s g ar w (.error 4) := by
  have HM := Lib.hid (meet_big g ar k (by omega) (by omega) (by omega) (w.alloc (.cells #[.bool false, .string ⟨#[]⟩, .slice none 0 0] 63)) (hT.below (al1 _ _)))
  have HT := Lib.hid hT
  clear har hT
  unfold ReadTo
  go_enter Tryd.func95, Tryd.ntmps95
  go_wp2_with fail
  with_reducible refine HM.out.mono ?_
  rintro e w1 ⟨rfl, hw1⟩
  have HG := Lib.hid (met HT.out hw1).2.2
  clear hw1
  go_wp2
  simp [bodyPost]
  exact HG.out
set_option maxRecDepth 100000 in
set_option maxHeartbeats 4000000 in
theorem read_head (s : ByteArray) (around k g : Nat) (ar c : Int) (w : World) (har : ar = around) (ha : around ≤ 64) (hk2 : k + 1 ≤ 4096) (hT : Tal w g k) (hh : headE s.data.toList = .error c) : ReadTo s g ar w (.error c) := by
  have HM := Lib.hid (meet_ok g ar k (by omega) (by omega) (by omega) (w.alloc (.cells #[.bool false, .string ⟨#[]⟩, .slice none 0 0] 63)) (hT.below (al1 _ _)))
  have HT := Lib.hid hT
  have ht := head_tells s
  rw [hh] at ht
  have HH : Hid (∀ w, Calls Tryd.prog 106 #[.string s] w fun e w' => e = .panicked [errP c] ∧ w = w') := Lib.hid ht
  clear har hT ht
  unfold ReadTo
  go_enter Tryd.func95, Tryd.ntmps95
  go_wp2_with fail
  with_reducible refine HM.out.mono ?_
  rintro e w1 ⟨rfl, hw1⟩
  have HG := Lib.hid (met HT.out hw1).2.2
  clear hw1
  go_wp2_with fail
  with_reducible refine (HH.out _).mono ?_
  rintro e w2 ⟨rfl, rfl⟩
  go_wp2
  simp [bodyPost]
  exact HG.out
set_option maxRecDepth 100000 in
set_option maxHeartbeats 4000000 in
theorem read_short (s : ByteArray) (around k g : Nat) (ar : Int) (w : World) (l : Bool) (a v : Nat) (har : ar = around) (ha : around ≤ 64) (hk2 : k + 1 ≤ 4096) (hT : Tal w g k) (hh : headE s.data.toList = .ok (l, a, v)) (hsz : s.size ≤ 9223372036854775807) (has : a ≤ s.size) (hlt : s.size - a < v) : ReadTo s g ar w (.error 5) := by
  have HM := Lib.hid (meet_ok g ar k (by omega) (by omega) (by omega) (w.alloc (.cells #[.bool false, .string ⟨#[]⟩, .slice none 0 0] 63)) (hT.below (al1 _ _)))
  have HT := Lib.hid hT
  have ht := head_tells s
  rw [hh] at ht
  have HH : Hid (∀ w, Calls Tryd.prog 106 #[.string s] w fun e w' => e = .returned (.tuple #[.bool l, .int .i64 a, .int .u64 v]) ∧ w = w') := Lib.hid ht
  have hA : (s.size : Int) - (a : Int) = ((s.size - a : Nat) : Int) := by omega
  clear har hT ht hh
  unfold ReadTo
  go_enter Tryd.func95, Tryd.ntmps95
  go_wp2_with fail
  with_reducible refine HM.out.mono ?_
  rintro e w1 ⟨rfl, hw1⟩
  obtain ⟨ho1, ht1, hg1⟩ := met HT.out hw1
  have HO := Lib.hid ho1
  have HT1 := Lib.hid ht1
  have HG := Lib.hid hg1
  clear hw1 ho1 ht1 hg1 HM
  go_wp2_with fail
  with_reducible refine (HH.out _).mono ?_
  rintro e w2 ⟨rfl, rfl⟩
  go_wp2_with (go_at_call 83; refine (fail_any _ _).mono ?_; rintro e w3 ⟨rfl, rfl⟩)
  simp [bodyPost]
  exact HG.out

theorem ext_bytes (s : ByteArray) (a v : Nat) : s.extract a (a + v) = ⟨((s.data.toList.drop a).take v).toArray⟩ := by
  apply ByteArray.ext
  apply Array.toList_inj.1
  simp [List.extract_eq_take_drop]
theorem tal_row {w : World} {g b : Nat} {k : Int} (h : Tal w g k) (hne : b ≠ g) (cs : Array Value) : Tal (w.setRow b cs) g k := by
  have e : (w.setRow b cs).heap[g]? = w.heap[g]? := setRow_other w b g cs (fun e => hne e.symm)
  exact ⟨(World.cell?_of_block (a := ⟨g, 0, none⟩) e).trans h.1, (World.frozen?_of_block (a := ⟨g, 0, none⟩) e).trans h.2⟩
/-- a block that was not there may be written -/
theorem gb_row {w w1 : World} {g b : Nat} (h : w.grownBy w1 (some g)) (hb : w.heap.size ≤ b) (cs : Array Value) : w.grownBy (w1.setRow b cs) (some g) :=
  ⟨h.os, h.tape, h.output, by simp; exact h.size, fun k hk hr => (setRow_other w1 b k cs (by omega)).trans (h.block k hk hr)⟩

set_option maxRecDepth 100000 in
set_option maxHeartbeats 4000000 in
theorem read_text1 (s : ByteArray) (around k g : Nat) (ar : Int) (w : World) (a v : Nat) (har : ar = around) (ha : around ≤ 64) (hk2 : k + 1 ≤ 4096) (hT : Tal w g k) (hh : headE s.data.toList = .ok (false, a, v)) (hsz : s.size ≤ 9223372036854775807) (has : a + v ≤ s.size)
    (h1 : a ≠ 1) : ReadTo s g ar w (.ok (.mk false ⟨((s.data.toList.drop a).take v).toArray⟩ [], a + v, k + 1)) := by
  have HM := Lib.hid (meet_ok g ar k (by omega) (by omega) (by omega) (w.alloc (.cells #[.bool false, .string ⟨#[]⟩, .slice none 0 0] 63)) (hT.below (al1 _ _)))
  have HT := Lib.hid hT
  have ht := head_tells s
  rw [hh] at ht
  have HH : Hid (∀ w, Calls Tryd.prog 106 #[.string s] w fun e w' => e = .returned (.tuple #[.bool false, .int .i64 a, .int .u64 v]) ∧ w = w') := Lib.hid ht
  have hA : (s.size : Int) - (a : Int) = ((s.size - a : Nat) : Int) := by omega
  have hle : v ≤ s.size - a := by omega
  obtain ⟨B, hB⟩ : ∃ B, s.extract a (a + v) = B := ⟨_, rfl⟩
  have hBs : B.size = v := by rw [← hB, ByteArray.size_extract]; omega
  have HBd : Hid (B = ⟨((s.data.toList.drop a).take v).toArray⟩) := Lib.hid (by rw [← hB]; exact ext_bytes s a v)
  have q1 : ((a : Int) == 1) = false := by simp; omega
  clear har hT ht hh
  unfold ReadTo
  go_enter Tryd.func95, Tryd.ntmps95
  go_wp2_with fail
  with_reducible refine HM.out.mono ?_
  rintro e w1 ⟨rfl, hw1⟩
  obtain ⟨ho1, ht1, hg1⟩ := met HT.out hw1
  have HO := Lib.hid ho1
  have HT1 := Lib.hid ht1
  have HG := Lib.hid hg1
  clear hw1 ho1 ht1 hg1 HM
  go_wp2_with fail
  with_reducible refine (HH.out _).mono ?_
  rintro e w2 ⟨rfl, rfl⟩
  go_wp2_with fail
  with_reducible refine (text_any B w1).mono ?_
  rintro e w3 ⟨rfl, hb3⟩
  have HO3 := Lib.hid (HO.out.below hb3)
  have HT3 := Lib.hid (HT1.out.below hb3)
  have HG3 := Lib.hid (gb_trans HG.out (gb_of hb3))
  clear hb3
  go_wp2_with (refine wpList_store_rowTo rfl 63 _ _ rfl rfl _ (itC (.mk false B []) none 0 0) rfl rfl 63 (itC it0 none 0 0) HO3.out.2 (info_itC _ _ _ _) rfl (itC_one _ _ _ _) ?_)
  refine bodyPost_ret (res_item1 rfl _ rfl (lies_row (setRow_heap _ _ _ _ _ _ HO3.out.2))) rfl ⟨none, 0, 0, ?_, ItsIn.nil _ _, tal_row HT3.out (by have := HT.out.lt; omega) _, gb_row HG3.out (Nat.le_refl _) _⟩
  show Ending.returned (.tuple #[itV (.mk false B []) none 0 0, .int .i64 ((a : Int) + (v : Int))]) = _
  rw [HBd.out]
  rfl

set_option maxRecDepth 100000 in
set_option maxHeartbeats 4000000 in
theorem read_text2 (s : ByteArray) (around k g : Nat) (ar : Int) (w : World) (a v : Nat) (har : ar = around) (ha : around ≤ 64) (hk2 : k + 1 ≤ 4096) (hT : Tal w g k) (hh : headE s.data.toList = .ok (false, a, v)) (hsz : s.size ≤ 9223372036854775807) (has : a + v ≤ s.size)
    (h1 : a = 1) (h2 : v ≠ 1) : ReadTo s g ar w (.ok (.mk false ⟨((s.data.toList.drop a).take v).toArray⟩ [], a + v, k + 1)) := by
  have HM := Lib.hid (meet_ok g ar k (by omega) (by omega) (by omega) (w.alloc (.cells #[.bool false, .string ⟨#[]⟩, .slice none 0 0] 63)) (hT.below (al1 _ _)))
  have HT := Lib.hid hT
  have ht := head_tells s
  rw [hh] at ht
  have HH : Hid (∀ w, Calls Tryd.prog 106 #[.string s] w fun e w' => e = .returned (.tuple #[.bool false, .int .i64 a, .int .u64 v]) ∧ w = w') := Lib.hid ht
  have hA : (s.size : Int) - (a : Int) = ((s.size - a : Nat) : Int) := by omega
  have hle : v ≤ s.size - a := by omega
  obtain ⟨B, hB⟩ : ∃ B, s.extract a (a + v) = B := ⟨_, rfl⟩
  have hBs : B.size = v := by rw [← hB, ByteArray.size_extract]; omega
  have HBd : Hid (B = ⟨((s.data.toList.drop a).take v).toArray⟩) := Lib.hid (by rw [← hB]; exact ext_bytes s a v)
  have q1 : ((a : Int) == 1) = true := by simp; omega
  have q2 : ((v : Int) == 1) = false := by simp; omega
  clear h1
  clear har hT ht hh
  unfold ReadTo
  go_enter Tryd.func95, Tryd.ntmps95
  go_wp2_with fail
  with_reducible refine HM.out.mono ?_
  rintro e w1 ⟨rfl, hw1⟩
  obtain ⟨ho1, ht1, hg1⟩ := met HT.out hw1
  have HO := Lib.hid ho1
  have HT1 := Lib.hid ht1
  have HG := Lib.hid hg1
  clear hw1 ho1 ht1 hg1 HM
  go_wp2_with fail
  with_reducible refine (HH.out _).mono ?_
  rintro e w2 ⟨rfl, rfl⟩
  go_wp2_with fail
  with_reducible refine (text_any B w1).mono ?_
  rintro e w3 ⟨rfl, hb3⟩
  have HO3 := Lib.hid (HO.out.below hb3)
  have HT3 := Lib.hid (HT1.out.below hb3)
  have HG3 := Lib.hid (gb_trans HG.out (gb_of hb3))
  clear hb3
  go_wp2_with (refine wpList_store_rowTo rfl 63 _ _ rfl rfl _ (itC (.mk false B []) none 0 0) rfl rfl 63 (itC it0 none 0 0) HO3.out.2 (info_itC _ _ _ _) rfl (itC_one _ _ _ _) ?_)
  refine bodyPost_ret (res_item1 rfl _ rfl (lies_row (setRow_heap _ _ _ _ _ _ HO3.out.2))) rfl ⟨none, 0, 0, ?_, ItsIn.nil _ _, tal_row HT3.out (by have := HT.out.lt; omega) _, gb_row HG3.out (Nat.le_refl _) _⟩
  show Ending.returned (.tuple #[itV (.mk false B []) none 0 0, .int .i64 ((a : Int) + (v : Int))]) = _
  rw [HBd.out]
  rfl

set_option maxRecDepth 100000 in
set_option maxHeartbeats 4000000 in
theorem read_text3 (s : ByteArray) (around k g : Nat) (ar : Int) (w : World) (a v : Nat) (har : ar = around) (ha : around ≤ 64) (hk2 : k + 1 ≤ 4096) (hT : Tal w g k) (hh : headE s.data.toList = .ok (false, a, v)) (hsz : s.size ≤ 9223372036854775807) (has : a + v ≤ s.size)
    (h1 : a = 1) (h2 : v = 1) (h3 : 128 ≤ ((s.data.toList.drop 1).headD 0).toNat) : ReadTo s g ar w (.ok (.mk false ⟨((s.data.toList.drop a).take v).toArray⟩ [], a + v, k + 1)) := by
  have HM := Lib.hid (meet_ok g ar k (by omega) (by omega) (by omega) (w.alloc (.cells #[.bool false, .string ⟨#[]⟩, .slice none 0 0] 63)) (hT.below (al1 _ _)))
  have HT := Lib.hid hT
  have ht := head_tells s
  rw [hh] at ht
  have HH : Hid (∀ w, Calls Tryd.prog 106 #[.string s] w fun e w' => e = .returned (.tuple #[.bool false, .int .i64 a, .int .u64 v]) ∧ w = w') := Lib.hid ht
  have hA : (s.size : Int) - (a : Int) = ((s.size - a : Nat) : Int) := by omega
  have hle : v ≤ s.size - a := by omega
  obtain ⟨B, hB⟩ : ∃ B, s.extract a (a + v) = B := ⟨_, rfl⟩
  have hBs : B.size = v := by rw [← hB, ByteArray.size_extract]; omega
  have HBd : Hid (B = ⟨((s.data.toList.drop a).take v).toArray⟩) := Lib.hid (by rw [← hB]; exact ext_bytes s a v)
  have q1 : ((a : Int) == 1) = true := by simp; omega
  have q2 : ((v : Int) == 1) = true := by simp; omega
  have q0 : 0 < B.size := by omega
  have q3 : 128 ≤ B[0].toNat := by
    rw [← first_of' q0, HBd.out, h1, h2]
    revert h3
    cases (s.data.toList.drop 1) <;> simp
  clear h1 h2 h3
  clear har hT ht hh
  unfold ReadTo
  go_enter Tryd.func95, Tryd.ntmps95
  go_wp2_with fail
  with_reducible refine HM.out.mono ?_
  rintro e w1 ⟨rfl, hw1⟩
  obtain ⟨ho1, ht1, hg1⟩ := met HT.out hw1
  have HO := Lib.hid ho1
  have HT1 := Lib.hid ht1
  have HG := Lib.hid hg1
  clear hw1 ho1 ht1 hg1 HM
  go_wp2_with fail
  with_reducible refine (HH.out _).mono ?_
  rintro e w2 ⟨rfl, rfl⟩
  go_wp2_with fail
  with_reducible refine (text_any B w1).mono ?_
  rintro e w3 ⟨rfl, hb3⟩
  have HO3 := Lib.hid (HO.out.below hb3)
  have HT3 := Lib.hid (HT1.out.below hb3)
  have HG3 := Lib.hid (gb_trans HG.out (gb_of hb3))
  clear hb3
  go_wp2_with (refine wpList_store_rowTo rfl 63 _ _ rfl rfl _ (itC (.mk false B []) none 0 0) rfl rfl 63 (itC it0 none 0 0) HO3.out.2 (info_itC _ _ _ _) rfl (itC_one _ _ _ _) ?_)
  refine bodyPost_ret (res_item1 rfl _ rfl (lies_row (setRow_heap _ _ _ _ _ _ HO3.out.2))) rfl ⟨none, 0, 0, ?_, ItsIn.nil _ _, tal_row HT3.out (by have := HT.out.lt; omega) _, gb_row HG3.out (Nat.le_refl _) _⟩
  show Ending.returned (.tuple #[itV (.mk false B []) none 0 0, .int .i64 ((a : Int) + (v : Int))]) = _
  rw [HBd.out]
  rfl

set_option maxRecDepth 100000 in
set_option maxHeartbeats 4000000 in
theorem read_one (s : ByteArray) (around k g : Nat) (ar : Int) (w : World) (a v : Nat) (har : ar = around) (ha : around ≤ 64) (hk2 : k + 1 ≤ 4096) (hT : Tal w g k) (hh : headE s.data.toList = .ok (false, a, v)) (hsz : s.size ≤ 9223372036854775807) (has : a + v ≤ s.size)
    (h1 : a = 1) (h2 : v = 1) (h3 : ((s.data.toList.drop 1).headD 0).toNat < 128) : ReadTo s g ar w (.error 6) := by
  have HM := Lib.hid (meet_ok g ar k (by omega) (by omega) (by omega) (w.alloc (.cells #[.bool false, .string ⟨#[]⟩, .slice none 0 0] 63)) (hT.below (al1 _ _)))
  have HT := Lib.hid hT
  have ht := head_tells s
  rw [hh] at ht
  have HH : Hid (∀ w, Calls Tryd.prog 106 #[.string s] w fun e w' => e = .returned (.tuple #[.bool false, .int .i64 a, .int .u64 v]) ∧ w = w') := Lib.hid ht
  have hA : (s.size : Int) - (a : Int) = ((s.size - a : Nat) : Int) := by omega
  have hle : v ≤ s.size - a := by omega
  obtain ⟨B, hB⟩ : ∃ B, s.extract a (a + v) = B := ⟨_, rfl⟩
  have hBs : B.size = v := by rw [← hB, ByteArray.size_extract]; omega
  have HBd : Hid (B = ⟨((s.data.toList.drop a).take v).toArray⟩) := Lib.hid (by rw [← hB]; exact ext_bytes s a v)
  have q1 : ((a : Int) == 1) = true := by simp; omega
  have q2 : ((v : Int) == 1) = true := by simp; omega
  have q0 : 0 < B.size := by omega
  have q3 : B[0].toNat < 128 := by
    rw [← first_of' q0, HBd.out, h1, h2]
    revert h3
    have hl : 0 < (s.data.toList.drop 1).length := by rw [List.length_drop, ← size_len]; omega
    revert hl
    cases (s.data.toList.drop 1) <;> simp
  clear h1 h2 h3
  clear har hT ht hh
  unfold ReadTo
  go_enter Tryd.func95, Tryd.ntmps95
  go_wp2_with fail
  with_reducible refine HM.out.mono ?_
  rintro e w1 ⟨rfl, hw1⟩
  obtain ⟨ho1, ht1, hg1⟩ := met HT.out hw1
  have HO := Lib.hid ho1
  have HT1 := Lib.hid ht1
  have HG := Lib.hid hg1
  clear hw1 ho1 ht1 hg1 HM
  go_wp2_with fail
  with_reducible refine (HH.out _).mono ?_
  rintro e w2 ⟨rfl, rfl⟩
  go_wp2_with (go_at_call 83; refine (fail_any _ _).mono ?_; rintro e w3 ⟨rfl, rfl⟩)
  simp [bodyPost]
  exact HG.out

set_option maxRecDepth 100000 in
set_option maxHeartbeats 4000000 in
theorem read_list (s : ByteArray) (around k g : Nat) (ar : Int) (w : World) (a v : Nat) (har : ar = around) (ha : around ≤ 64) (hk2 : k + 1 ≤ 4096) (hT : Tal w g k) (hh : headE s.data.toList = .ok (true, a, v)) (hsz : s.size ≤ 9223372036854775807) (has : a + v ≤ s.size)
    (hC : AllC (s.extract a (a + v))) : ReadTo s g ar w (match allL ((s.data.toList.drop a).take v) (around + 1) (k + 1) with
      | .error e => .error e
      | .ok (xs, k') => .ok (.mk true ⟨#[]⟩ xs, a + v, k')) := by
  have HM := Lib.hid (meet_ok g ar k (by omega) (by omega) (by omega) (w.alloc (.cells #[.bool false, .string ⟨#[]⟩, .slice none 0 0] 63)) (hT.below (al1 _ _)))
  have HT := Lib.hid hT
  have ht := head_tells s
  rw [hh] at ht
  have HH : Hid (∀ w, Calls Tryd.prog 106 #[.string s] w fun e w' => e = .returned (.tuple #[.bool true, .int .i64 a, .int .u64 v]) ∧ w = w') := Lib.hid ht
  have hA : (s.size : Int) - (a : Int) = ((s.size - a : Nat) : Int) := by omega
  have hle : v ≤ s.size - a := by omega
  have hBl : (s.extract a (a + v)).data.toList = (s.data.toList.drop a).take v := by rw [ext_bytes]
  obtain ⟨B, hB⟩ : ∃ B, s.extract a (a + v) = B := ⟨_, rfl⟩
  rw [hB] at hC hBl
  have HA := Lib.hid (fun (w1 : World) (ht : Tal w1 g (k + 1 : Nat)) => hC (around + 1) (k + 1) g (wrap64 (ar + 1)) w1 (by simp only [wrap64]; omega) (by omega) (by omega) ht)
  have hBs : B.size = v := by rw [← hB, ByteArray.size_extract]; omega
  rw [hBl] at HA
  clear har hT ht hh hBl hC
  cases hr : allL ((s.data.toList.drop a).take v) (around + 1) (k + 1) with
  | error c =>
    rw [hr] at HA
    clear hr
    have HA' : Hid (∀ w1, Tal w1 g (k + 1 : Nat) → Calls Tryd.prog 107 #[.pointer (some ⟨g, 0, none⟩), .string B, .int .i64 (wrap64 (ar + 1))] w1 fun e w' => e = .panicked [errP c] ∧ w1.grownBy w' (some g)) := Lib.hid HA.out
    clear HA
    dsimp only
    unfold ReadTo
    go_enter Tryd.func95, Tryd.ntmps95
    go_wp2_with fail
    with_reducible refine HM.out.mono ?_
    rintro e w1 ⟨rfl, hw1⟩
    obtain ⟨ho1, ht1, hg1⟩ := met HT.out hw1
    have HO := Lib.hid ho1
    have HT1 := Lib.hid ht1
    have HG := Lib.hid hg1
    clear hw1 ho1 ht1 hg1 HM
    go_wp2_with fail
    with_reducible refine (HH.out _).mono ?_
    rintro e w2 ⟨rfl, rfl⟩
    go_wp2_with fail
    with_reducible refine (HA'.out _ HT1.out).mono ?_
    rintro e w3 ⟨rfl, hg3⟩
    have HG3 := Lib.hid (gb_trans HG.out hg3)
    clear hg3
    go_wp2
    simp [bodyPost]
    exact HG3.out
  | ok r =>
    obtain ⟨xs, k'⟩ := r
    rw [hr] at HA
    clear hr
    have HA' : Hid (∀ w1, Tal w1 g (k + 1 : Nat) → Calls Tryd.prog 107 #[.pointer (some ⟨g, 0, none⟩), .string B, .int .i64 (wrap64 (ar + 1))] w1 fun e w' =>
      ∃ a nn cap, e = .returned (.slice a nn cap) ∧ ItsIn w1.heap.size w' xs a nn cap ∧ Tal w' g k' ∧ w1.grownBy w' (some g)) := Lib.hid HA.out
    clear HA
    dsimp only
    unfold ReadTo
    go_enter Tryd.func95, Tryd.ntmps95
    go_wp2_with fail
    with_reducible refine HM.out.mono ?_
    rintro e w1 ⟨rfl, hw1⟩
    obtain ⟨ho1, ht1, hg1⟩ := met HT.out hw1
    have HO := Lib.hid ho1
    have HT1 := Lib.hid ht1
    have HG := Lib.hid hg1
    clear hw1 ho1 ht1 hg1 HM
    go_wp2_with fail
    with_reducible refine (HH.out _).mono ?_
    rintro e w2 ⟨rfl, rfl⟩
    go_wp2_with fail
    with_reducible refine (HA'.out _ HT1.out).mono ?_
    rintro e w3 ⟨xa, xn, xc, rfl, hI3, ht3, hg3⟩
    have HO3 := Lib.hid (own_gb HO.out hg3 (by have := HT.out.lt; omega))
    have HI3 := Lib.hid (ItsIn_row hI3 HO.out.1)
    have HT3 := Lib.hid ht3
    have HG3 := Lib.hid (gb_trans HG.out hg3)
    have HS1 := Lib.hid HG.out.size
    clear hg3 hI3 ht3
    go_wp2_with (refine wpList_store_rowTo rfl 63 _ _ rfl rfl _ (itC (.mk true ⟨#[]⟩ xs) xa xn xc) rfl rfl 63 (itC it0 none 0 0) HO3.out.2 (info_itC _ _ _ _) rfl (itC_one _ _ _ _) ?_)
    refine bodyPost_ret (res_item1 rfl _ rfl (lies_row (setRow_heap _ _ _ _ _ _ HO3.out.2))) rfl ⟨xa, xn, xc, ?_, ItsIn.weak (HI3.out _) HS1.out, tal_row HT3.out (by have := HT.out.lt; omega) _, gb_row HG3.out (Nat.le_refl _) _⟩
    show Ending.returned (.tuple #[itV (.mk true ⟨#[]⟩ xs) xa xn xc, .int .i64 ((a : Int) + (v : Int))]) = _
    rfl

end Rl
end Go.Proofs.YtoeblhdddehemaaDoor
