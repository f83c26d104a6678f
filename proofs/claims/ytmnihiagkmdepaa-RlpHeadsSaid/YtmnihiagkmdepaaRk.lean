/-
  An item's bytes; contracts of rlp.front and rlp.inside.
-/
import Derived.Test.YtmnihiagkmdepaaRg
import Derived.Test.YtmnihiagkmdepaaRj
namespace Go.Proofs.Ytmnihiagkmdepaa
open Go.RowKit

namespace Rl
/-- ahead of the m bytes that are in an item -/
def frontL (l : Bool) (s : ByteArray) (m : Nat) : List UInt8 := if l = false ∧ m = 1 ∧ (s.data.toList.headD 0).toNat < 128 then [] else headL (min m 4294967296) l
def frontS (l : Bool) (s : ByteArray) (m : Nat) : ByteArray := ⟨(frontL l s m).toArray⟩
theorem clampH_nat (m : Nat) : clampH m = min m 4294967296 := by unfold clampH; omega
theorem frontS_head {l : Bool} {s : ByteArray} {m : Nat} (h : ¬ (l = false ∧ m = 1 ∧ (s.data.toList.headD 0).toNat < 128)) : frontS l s m = headS (min m 4294967296) l := by unfold frontS frontL headS; rw [if_neg h]
theorem frontS_none {l : Bool} {s : ByteArray} {m : Nat} (h : l = false ∧ m = 1 ∧ (s.data.toList.headD 0).toNat < 128) : frontS l s m = ⟨#[]⟩ := by unfold frontS frontL; rw [if_pos h]
theorem first_of {s : ByteArray} (h : 0 < s.size) : s.data.toList.headD 0 = s[0] := by
  obtain ⟨⟨l⟩⟩ := s
  cases l with
  | nil => simp [ByteArray.size] at h
  | cons c l => rfl

set_option maxRecDepth 100000 in
set_option maxHeartbeats 4000000 in
theorem front_any (x : It) (a : Option Addr) (n cap m : Nat) (hm : m < 2 ^ 63) (hx : x.l = false → m = x.s.size) (w : World) :
    Calls Try.prog 36 #[itV x a n cap, .int .i64 m] w fun e w' => e = .returned (.string (frontS x.l x.s m)) ∧ Below w.heap.size w w' := by
  obtain ⟨l, s, xs⟩ := x
  unfold itV
  dsimp only [It.l, It.s] at hx ⊢
  have hh := fun w => head_any m (by omega) l w
  rw [clampH_nat] at hh
  have HH := Lib.hid hh
  clear hh
  cases l with
  | true =>
    have HF := Lib.hid (frontS_head (l := true) (s := s) (m := m) (by simp))
    clear hx
    go_enter Try.func36, Try.ntmps36
    go_wp2_with fail
    with_reducible refine (HH.out _).mono ?_
    rintro e w1 ⟨rfl, hb⟩
    go_wp2
    go_ret
    exact ⟨by rw [HF.out]; rfl, below_step' (al1 _ _) hb⟩
  | false =>
    by_cases h1 : m = 1
    · have hs : s.size = 1 := by rw [← hx rfl, h1]
      have h0 : 0 < s.size := by omega
      have hf := first_of h0
      by_cases hc : s[0].toNat < 128
      · have HF := Lib.hid (frontS_none (l := false) (s := s) (m := m) ⟨rfl, h1, by rw [hf]; exact hc⟩)
        clear hx hf HH
        have hm1 : ((m : Int) == 1) = true := by simp; omega
        clear h1
        go_enter Try.func36, Try.ntmps36
        go_wp2
        go_ret
        exact ⟨by rw [HF.out]; rfl, al1 _ _⟩
      · have HF := Lib.hid (frontS_head (l := false) (s := s) (m := m) (by rw [hf]; omega))
        clear hx hf
        have hm1 : ((m : Int) == 1) = true := by simp; omega
        clear h1
        go_enter Try.func36, Try.ntmps36
        go_wp2_with fail
        with_reducible refine (HH.out _).mono ?_
        rintro e w1 ⟨rfl, hb⟩
        go_wp2
        go_ret
        exact ⟨by rw [HF.out]; rfl, below_step' (al1 _ _) hb⟩
    · have HF := Lib.hid (frontS_head (l := false) (s := s) (m := m) (by omega))
      have hm1 : ((m : Int) == 1) = false := by simp; omega
      clear hx
      go_enter Try.func36, Try.ntmps36
      go_wp2_with fail
      with_reducible refine (HH.out _).mono ?_
      rintro e w1 ⟨rfl, hb⟩
      go_wp2
      go_ret
      exact ⟨by rw [HF.out]; rfl, below_step' (al1 _ _) hb⟩
end Rl
namespace It
/-- an item's bytes -/
def bytes : It → List UInt8
  | .mk l s xs => Rl.frontL l s (s.data.toList ++ (xs.map bytes).flatten).length ++ (s.data.toList ++ (xs.map bytes).flatten)
termination_by x => SizeOf.sizeOf x
decreasing_by
  all_goals
    rename_i h
    have := List.sizeOf_lt_of_mem h
    simp
    omega
/-- .. those behind what stands ahead -/
def inner (x : It) : List UInt8 := x.s.data.toList ++ (x.xs.map bytes).flatten
theorem bytes_eq (x : It) : x.bytes = Rl.frontL x.l x.s x.inner.length ++ x.inner := by
  cases x
  rw [bytes]
  rfl
end It
namespace Rl
/-- the bytes of the first q -/
def firstL (xs : List It) (q : Nat) : List UInt8 := ((xs.take q).map It.bytes).flatten
theorem firstL_zero (xs : List It) : firstL xs 0 = [] := rfl
theorem firstL_step (xs : List It) (q : Nat) (x : It) (h : xs[q]? = some x) : firstL xs (q + 1) = firstL xs q ++ x.bytes := by
  unfold firstL
  rw [List.take_add_one, h]
  simp
theorem firstL_all (xs : List It) (n : Nat) (h : xs.length = n) : firstL xs n = (xs.map It.bytes).flatten := by
  unfold firstL
  rw [List.take_of_length_le (Nat.le_of_eq h)]
theorem firstL_le (xs : List It) (q : Nat) : (firstL xs q).length ≤ ((xs.map It.bytes).flatten).length := by
  have : (xs.map It.bytes).flatten = firstL xs q ++ ((xs.drop q).map It.bytes).flatten := by
    unfold firstL
    rw [← List.flatten_append, ← List.map_append, List.take_append_drop]
  rw [this, List.length_append]
  omega
theorem inner_le (x : It) : x.inner.length ≤ x.bytes.length := by
  rw [It.bytes_eq, List.length_append]
  omega
theorem inner_mk (l : Bool) (s : ByteArray) (xs : List It) : (It.mk l s xs).inner = s.data.toList ++ (xs.map It.bytes).flatten := rfl
theorem len_s (s : ByteArray) : s.data.toList.length = s.size := by rw [Array.length_toList]; rfl
theorem inner_text {around : Nat} {x : It} (h : Fits around x) (hl : x.l = false) : x.inner.length = x.s.size := by
  cases h with
  | mk ha hs hx h =>
    rw [hx hl, inner_mk, List.map_nil, List.flatten_nil, List.append_nil, len_s]
    rfl

set_option maxRecDepth 100000 in
set_option maxHeartbeats 4000000 in
theorem inside_any (x : It) : ∀ (around : Nat) (w : World) (v : Value), IsIt w x v → Fits around x → x.inner.length ≤ 1099511627776 →
    Calls Try.prog 37 #[v] w fun e w' => e = .returned (.int .i64 x.inner.length) ∧ Below w.heap.size w w' := by
  induction x using It.ind with
  | h l s xs ih =>
    rintro around w v ⟨a, n, cap, rfl, h⟩ hF hk
    have hm := h.max
    have hnc := h.le
    have hlen : xs.length = n := h.len
    unfold maxLen at hm
    cases hF with
    | mk ha hs hx hy =>
      rw [inner_mk, List.length_append, len_s] at hk ⊢
      have H := Lib.hid h
      have HY := Lib.hid hy
      have HIh := Lib.hid ih
      have HK := Lib.hid hk
      have hss : s.size ≤ 1099511627776 := by omega
      clear h hy ih hs hx hk
      unfold itV
      dsimp only [It.l, It.s, It.xs] at H ⊢
      go_enter Try.func37, Try.ntmps37
      go_wp2
      go_loopw [3, 13] (fun acc i wr => ∃ q k : Nat, q ≤ n ∧ i = .int .i64 q ∧ acc = .int .i64 k ∧ Hid (k = s.size + (firstL xs q).length) ∧ Below (w.heap.size + 1) (w.alloc (.cells #[.bool l, .string s, .slice a n cap] 24)) wr) (fun _ i _ => n - (intOf i).toNat)
      case atStart => exact ⟨0, s.size, Nat.zero_le _, rfl, rfl, Lib.hid rfl, Below.refl _ _⟩
      case round =>
        obtain ⟨q, k, hq, rfl, rfl, HQ, hB⟩ := hrel
        have HB := Lib.hid hB
        clear hB
        by_cases hlt : q < n
        · obtain ⟨x, b, off, A, N, C, hx, rfl, hb, hL, hI⟩ := H.out.at' q hlt
          have hBw := of_al HB.out
          obtain ⟨e0, e1, e2⟩ := hL.stays hBw hb
          have hst := firstL_step xs q x hx
          have hle := firstL_le xs (q + 1)
          have hk2 := HK.out
          have hkq := HQ.out
          have hin := inner_le x
          have hby : x.bytes.length = (frontL x.l x.s x.inner.length).length + x.inner.length := by
            rw [It.bytes_eq, List.length_append]
          rw [hst, List.length_append] at hle
          have HS : Hid (k + (frontL x.l x.s x.inner.length).length + x.inner.length = s.size + (firstL xs (q + 1)).length) := Lib.hid (by
            rw [hst, List.length_append]; omega)
          have hfx := HY.out x (List.mem_of_getElem? hx)
          have HI := Lib.hid (HIh.out x (List.mem_of_getElem? hx) (around + 1) (wr.alloc (.cells #[.bool x.l, .string x.s, .slice A N C] 24)) (itV x A N C) ⟨A, N, C, rfl, hI.stays (below_step' hBw (al1 _ _))⟩ hfx (by omega))
          have HF := Lib.hid (fun w => front_any x A N C x.inner.length (by omega) (fun e => inner_text hfx e) w)
          have hb1 : x.inner.length ≤ 1099511627776 := by omega
          have hb2 : (frontL x.l x.s x.inner.length).length ≤ 1099511627776 := by omega
          have hb3 : k ≤ 1099511627776 := by omega
          have hsz : (frontS x.l x.s x.inner.length).size = (frontL x.l x.s x.inner.length).length := rfl
          obtain ⟨m, hm'⟩ : ∃ m, x.inner.length = m := ⟨_, rfl⟩
          rw [hm'] at HI HF hb1 hb2 hsz HS
          obtain ⟨f, hf⟩ : ∃ f, frontS x.l x.s m = f := ⟨_, rfl⟩
          obtain ⟨p, hp⟩ : ∃ p, (frontL x.l x.s m).length = p := ⟨_, rfl⟩
          rw [hp] at hsz hb2 HS
          simp only [hf] at HF hsz
          unfold itV at HI HF
          clear hL hI hx HIh HY hst hle hk2 hkq hin hby hfx hm' hf hp
          go_wp2_with fail
          with_reducible refine HI.out.mono ?_
          rintro e w2 ⟨rfl, hb2'⟩
          have d0 : w2.cell? ⟨wr.heap.size, 0, none⟩ = some (.bool x.l) := by rw [hb2'.cell (p := ⟨wr.heap.size, 0, none⟩) (by simp), World.cell?_alloc_mark]; rfl
          have d1 : w2.cell? ⟨wr.heap.size, 1, none⟩ = some (.string x.s) := by rw [hb2'.cell (p := ⟨wr.heap.size, 1, none⟩) (by simp), World.cell?_alloc_mark]; rfl
          have d2 : w2.cell? ⟨wr.heap.size, 2, none⟩ = some (.slice A N C) := by rw [hb2'.cell (p := ⟨wr.heap.size, 2, none⟩) (by simp), World.cell?_alloc_mark]; rfl
          have HB2 := Lib.hid (al_step HB.out (below_step' (al1 _ _) hb2'))
          clear hb2'
          go_wp2_with fail
          with_reducible refine (HF.out _).mono ?_
          rintro e w3 ⟨rfl, hb3'⟩
          have HB3 := Lib.hid (al_step HB2.out hb3')
          clear hb3'
          go_wp2
          go_roundw
          case rel => exact ⟨q + 1, k + p + m, by omega, by go_num, by go_num, Lib.hid HS.out, HB3.out⟩
          case measure => simp [intOf]; omega
        · obtain rfl : q = n := by omega
          clear HIh HY
          go_wp2
          go_ret
          refine ⟨?_, of_al HB.out⟩
          have := HQ.out
          rw [firstL_all xs _ hlen] at this
          rw [this]
          rfl
end Rl
end Go.Proofs.Ytmnihiagkmdepaa
