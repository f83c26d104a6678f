/-
  The contract of (*rlp.tally).read, where what is within a list is read as it ought to be.
-/
import Derived.Test.YtmnihiagkmdepaaRn
namespace Go.Proofs.Ytmnihiagkmdepaa
open Go.RowKit

namespace Rl
open Pk
/-- what read tells -/
def ReadTo (s : ByteArray) (g : Nat) (ar : Int) (w : World) : Except Int (It × Nat × Nat) → Prop
  | .error c => Calls Try.prog 29 #[.pointer (some ⟨g, 0, none⟩), .string s, .int .i64 ar] w fun e w' => e = .panicked [errP c] ∧ w.grownBy w' (some g)
  | .ok (x, n, k') => Calls Try.prog 29 #[.pointer (some ⟨g, 0, none⟩), .string s, .int .i64 ar] w fun e w' =>
      ∃ a nn cap, e = .returned (.tuple #[itV x a nn cap, .int .i64 n]) ∧ ItsIn w.heap.size w' x.xs a nn cap ∧ Tal w' g k' ∧ w.grownBy w' (some g)
def ReadC (s : ByteArray) : Prop := ∀ (around k g : Nat) (ar : Int) (w : World), ar = around → around ≤ 65 → k ≤ 4096 → Tal w g k → ReadTo s g ar w (readL s.data.toList around k)
/-- what all tells -/
def AllPost (g : Nat) (w : World) : Except Int (List It × Nat) → Ending → World → Prop
  | .error c => fun e w' => e = .panicked [errP c] ∧ w.grownBy w' (some g)
  | .ok (xs, k') => fun e w' => ∃ a nn cap, e = .returned (.slice a nn cap) ∧ ItsIn w.heap.size w' xs a nn cap ∧ Tal w' g k' ∧ w.grownBy w' (some g)
def AllTo (s : ByteArray) (g : Nat) (ar : Int) (w : World) (r : Except Int (List It × Nat)) : Prop := Calls Try.prog 39 #[.pointer (some ⟨g, 0, none⟩), .string s, .int .i64 ar] w (AllPost g w r)
def AllC (s : ByteArray) : Prop := ∀ (around k g : Nat) (ar : Int) (w : World), ar = around → around ≤ 65 → k ≤ 4096 → Tal w g k → AllTo s g ar w (allL s.data.toList around k)

theorem readL_eq (s : List UInt8) (around k : Nat) : readL s around k =
    if 64 < around then .error 17 else if 4096 < k + 1 then .error 4 else
    match headE s with
    | .error e => .error e
    | .ok (l, a, v) => if s.length - a < v then .error 5 else
      if l then (match allL ((s.drop a).take v) (around + 1) (k + 1) with
        | .error e => .error e
        | .ok (xs, k') => .ok (.mk true ⟨#[]⟩ xs, a + v, k'))
      else if a = 1 ∧ v = 1 ∧ ((s.drop 1).headD 0).toNat < 128 then .error 6 else .ok (.mk false ⟨((s.drop a).take v).toArray⟩ [], a + v, k + 1) := by
  cases s with
  | nil => rw [readL]; rfl
  | cons c t =>
    rw [readL]
    split
    · rfl
    · split
      · rfl
      · cases hh : headE (c :: t) with
        | error e => rfl
        | ok r =>
          obtain ⟨l, a, v⟩ := r
          cases l with
          | false => rfl
          | true =>
            have h1 := (headE_props hh).2.2.2.2 rfl
            have h2 : (c :: t).drop a = t.drop (a - 1) := by
              obtain ⟨b, rfl⟩ : ∃ b, a = b + 1 := ⟨a - 1, by omega⟩
              rfl
            dsimp only
            rw [h2]
            rfl

/-- the world behind meet -/
theorem met {w w1 : World} {g k : Nat} (hT : Tal w g k) (h : w1 = (w.alloc (.cells #[.bool false, .string ⟨#[]⟩, .slice none 0 0] 24)).setCell ⟨g, 0, none⟩ (.int .i64 (k + 1))) :
    Rg.Own w1 w.heap.size (itC it0 none 0 0) 24 ∧ Tal w1 g (k + 1 : Nat) ∧ w.grownBy w1 (some g) := by
  have hlt := hT.lt
  refine ⟨?_, ?_, ?_⟩
  · rw [h]; exact own_set (Rg.Own.new w (itC it0 none 0 0) 24) _ (by omega)
  · rw [h]; exact (hT.below (al1 w (.cells (itC it0 none 0 0) 24))).set (k + 1)
  · rw [h]; exact gb_trans (gb_of (al1 _ _)) (gb_set _ _ _ _)

set_option maxRecDepth 100000 in
set_option maxHeartbeats 4000000 in
theorem read_deep (s : ByteArray) (around k g : Nat) (ar : Int) (w : World) (har : ar = around) (ha : 64 < around) (hk : k ≤ 4096) (hT : Tal w g k) : ReadTo s g ar w (.error 17) := by
  have HM := Lib.hid (meet_deep g ar k (by omega) (by omega) (by omega) (w.alloc (.cells #[.bool false, .string ⟨#[]⟩, .slice none 0 0] 24)) (hT.below (al1 _ _)))
  have HT := Lib.hid hT
  clear har hT
  unfold ReadTo
  go_enter Try.func29, Try.ntmps29
  go_wp2_with fail
  with_reducible refine HM.out.mono ?_
  rintro e w1 ⟨rfl, hw1⟩
  have HG := Lib.hid (met HT.out hw1).2.2
  clear hw1
  go_wp2
  simp [bodyPost]
  exact HG.out
set_option maxRecDepth 100000 in
set_option maxHeartbeats 4000000 in
theorem read_big (s : ByteArray) (around k g : Nat) (ar : Int) (w : World) (har : ar = around) (ha : around ≤ 64) (hk : k ≤ 4096) (hk2 : 4096 < k + 1) (hT : Tal w g k) : ReadTo s g ar w (.error 4) := by
  have HM := Lib.hid (meet_big g ar k (by omega) (by omega) (by omega) (w.alloc (.cells #[.bool false, .string ⟨#[]⟩, .slice none 0 0] 24)) (hT.below (al1 _ _)))
  have HT := Lib.hid hT
  clear har hT
  unfold ReadTo
  go_enter Try.func29, Try.ntmps29
  go_wp2_with fail
  with_reducible refine HM.out.mono ?_
  rintro e w1 ⟨rfl, hw1⟩
  have HG := Lib.hid (met HT.out hw1).2.2
  clear hw1
  go_wp2
  simp [bodyPost]
  exact HG.out
set_option maxRecDepth 100000 in
set_option maxHeartbeats 4000000 in
theorem read_head (s : ByteArray) (around k g : Nat) (ar c : Int) (w : World) (har : ar = around) (ha : around ≤ 64) (hk2 : k + 1 ≤ 4096) (hT : Tal w g k) (hh : headE s.data.toList = .error c) : ReadTo s g ar w (.error c) := by
  have HM := Lib.hid (meet_ok g ar k (by omega) (by omega) (by omega) (w.alloc (.cells #[.bool false, .string ⟨#[]⟩, .slice none 0 0] 24)) (hT.below (al1 _ _)))
  have HT := Lib.hid hT
  have ht := head_tells s
  rw [hh] at ht
  have HH : Hid (∀ w, Calls Try.prog 38 #[.string s] w fun e w' => e = .panicked [errP c] ∧ w = w') := Lib.hid ht
  clear har hT ht
  unfold ReadTo
  go_enter Try.func29, Try.ntmps29
  go_wp2_with fail
  with_reducible refine HM.out.mono ?_
  rintro e w1 ⟨rfl, hw1⟩
  have HG := Lib.hid (met HT.out hw1).2.2
  clear hw1
  go_wp2_with fail
  with_reducible refine (HH.out _).mono ?_
  rintro e w2 ⟨rfl, rfl⟩
  go_wp2
  simp [bodyPost]
  exact HG.out
set_option maxRecDepth 100000 in
set_option maxHeartbeats 4000000 in
theorem read_short (s : ByteArray) (around k g : Nat) (ar : Int) (w : World) (l : Bool) (a v : Nat) (har : ar = around) (ha : around ≤ 64) (hk2 : k + 1 ≤ 4096) (hT : Tal w g k) (hh : headE s.data.toList = .ok (l, a, v)) (hsz : s.size ≤ 9223372036854775807) (has : a ≤ s.size) (hlt : s.size - a < v) : ReadTo s g ar w (.error 5) := by
  have HM := Lib.hid (meet_ok g ar k (by omega) (by omega) (by omega) (w.alloc (.cells #[.bool false, .string ⟨#[]⟩, .slice none 0 0] 24)) (hT.below (al1 _ _)))
  have HT := Lib.hid hT
  have ht := head_tells s
  rw [hh] at ht
  have HH : Hid (∀ w, Calls Try.prog 38 #[.string s] w fun e w' => e = .returned (.tuple #[.bool l, .int .i64 a, .int .u64 v]) ∧ w = w') := Lib.hid ht
  have hA : (s.size : Int) - (a : Int) = ((s.size - a : Nat) : Int) := by omega
  clear har hT ht hh
  unfold ReadTo
  go_enter Try.func29, Try.ntmps29
  go_wp2_with fail
  with_reducible refine HM.out.mono ?_
  rintro e w1 ⟨rfl, hw1⟩
  obtain ⟨ho1, ht1, hg1⟩ := met HT.out hw1
  have HO := Lib.hid ho1
  have HT1 := Lib.hid ht1
  have HG := Lib.hid hg1
  clear hw1 ho1 ht1 hg1 HM
  go_wp2_with fail
  with_reducible refine (HH.out _).mono ?_
  rintro e w2 ⟨rfl, rfl⟩
  go_wp2_with (go_at_call 34; refine (fail_any _ _).mono ?_; rintro e w3 ⟨rfl, rfl⟩)
  simp [bodyPost]
  exact HG.out

theorem ext_bytes (s : ByteArray) (a v : Nat) : s.extract a (a + v) = ⟨((s.data.toList.drop a).take v).toArray⟩ := by
  apply ByteArray.ext
  apply Array.toList_inj.1
  simp [List.extract_eq_take_drop]
theorem tal_row {w : World} {g b : Nat} {k : Int} (h : Tal w g k) (hne : b ≠ g) (cs : Array Value) : Tal (w.setRow b cs) g k := by
  have e : (w.setRow b cs).heap[g]? = w.heap[g]? := setRow_other w b g cs (fun e => hne e.symm)
  exact ⟨(World.cell?_of_block (a := ⟨g, 0, none⟩) e).trans h.1, (World.frozen?_of_block (a := ⟨g, 0, none⟩) e).trans h.2⟩
/-- a block that was not there may be written -/
theorem gb_row {w w1 : World} {g b : Nat} (h : w.grownBy w1 (some g)) (hb : w.heap.size ≤ b) (cs : Array Value) : w.grownBy (w1.setRow b cs) (some g) :=
  ⟨h.os, h.tape, h.output, by simp; exact h.size, fun k hk hr => (setRow_other w1 b k cs (by omega)).trans (h.block k hk hr)⟩

set_option maxRecDepth 100000 in
set_option maxHeartbeats 4000000 in
theorem read_text1 (s : ByteArray) (around k g : Nat) (ar : Int) (w : World) (a v : Nat) (har : ar = around) (ha : around ≤ 64) (hk2 : k + 1 ≤ 4096) (hT : Tal w g k) (hh : headE s.data.toList = .ok (false, a, v)) (hsz : s.size ≤ 9223372036854775807) (has : a + v ≤ s.size)
    (h1 : a ≠ 1) : ReadTo s g ar w (.ok (.mk false ⟨((s.data.toList.drop a).take v).toArray⟩ [], a + v, k + 1)) := by
  have HM := Lib.hid (meet_ok g ar k (by omega) (by omega) (by omega) (w.alloc (.cells #[.bool false, .string ⟨#[]⟩, .slice none 0 0] 24)) (hT.below (al1 _ _)))
  have HT := Lib.hid hT
  have ht := head_tells s
  rw [hh] at ht
  have HH : Hid (∀ w, Calls Try.prog 38 #[.string s] w fun e w' => e = .returned (.tuple #[.bool false, .int .i64 a, .int .u64 v]) ∧ w = w') := Lib.hid ht
  have hA : (s.size : Int) - (a : Int) = ((s.size - a : Nat) : Int) := by omega
  have hle : v ≤ s.size - a := by omega
  obtain ⟨B, hB⟩ : ∃ B, s.extract a (a + v) = B := ⟨_, rfl⟩
  have hBs : B.size = v := by rw [← hB, ByteArray.size_extract]; omega
  have HBd : Hid (B = ⟨((s.data.toList.drop a).take v).toArray⟩) := Lib.hid (by rw [← hB]; exact ext_bytes s a v)
  have q1 : ((a : Int) == 1) = false := by simp; omega
  clear har hT ht hh
  unfold ReadTo
  go_enter Try.func29, Try.ntmps29
  go_wp2_with fail
  with_reducible refine HM.out.mono ?_
  rintro e w1 ⟨rfl, hw1⟩
  obtain ⟨ho1, ht1, hg1⟩ := met HT.out hw1
  have HO := Lib.hid ho1
  have HT1 := Lib.hid ht1
  have HG := Lib.hid hg1
  clear hw1 ho1 ht1 hg1 HM
  go_wp2_with fail
  with_reducible refine (HH.out _).mono ?_
  rintro e w2 ⟨rfl, rfl⟩
  go_wp2_with fail
  with_reducible refine (text_any B w1).mono ?_
  rintro e w3 ⟨rfl, hb3⟩
  have HO3 := Lib.hid (HO.out.below hb3)
  have HT3 := Lib.hid (HT1.out.below hb3)
  have HG3 := Lib.hid (gb_trans HG.out (gb_of hb3))
  clear hb3
  go_wp2_with (refine wpList_store_rowTo rfl 24 _ _ rfl rfl _ (itC (.mk false B []) none 0 0) rfl rfl 24 (itC it0 none 0 0) HO3.out.2 (info_itC _ _ _ _) rfl (itC_one _ _ _ _) ?_)
  refine bodyPost_ret (res_item1 rfl _ rfl (lies_row (setRow_heap _ _ _ _ _ _ HO3.out.2))) rfl ⟨none, 0, 0, ?_, ItsIn.nil _ _, tal_row HT3.out (by have := HT.out.lt; omega) _, gb_row HG3.out (Nat.le_refl _) _⟩
  show Ending.returned (.tuple #[itV (.mk false B []) none 0 0, .int .i64 ((a : Int) + (v : Int))]) = _
  rw [HBd.out]
  rfl

set_option maxRecDepth 100000 in
set_option maxHeartbeats 4000000 in
theorem read_text2 (s : ByteArray) (around k g : Nat) (ar : Int) (w : World) (a v : Nat) (har : ar = around) (ha : around ≤ 64) (hk2 : k + 1 ≤ 4096) (hT : Tal w g k) (hh : headE s.data.toList = .ok (false, a, v)) (hsz : s.size ≤ 9223372036854775807) (has : a + v ≤ s.size)
    (h1 : a = 1) (h2 : v ≠ 1) : ReadTo s g ar w (.ok (.mk false ⟨((s.data.toList.drop a).take v).toArray⟩ [], a + v, k + 1)) := by
  have HM := Lib.hid (meet_ok g ar k (by omega) (by omega) (by omega) (w.alloc (.cells #[.bool false, .string ⟨#[]⟩, .slice none 0 0] 24)) (hT.below (al1 _ _)))
  have HT := Lib.hid hT
  have ht := head_tells s
  rw [hh] at ht
  have HH : Hid (∀ w, Calls Try.prog 38 #[.string s] w fun e w' => e = .returned (.tuple #[.bool false, .int .i64 a, .int .u64 v]) ∧ w = w') := Lib.hid ht
  have hA : (s.size : Int) - (a : Int) = ((s.size - a : Nat) : Int) := by omega
  have hle : v ≤ s.size - a := by omega
  obtain ⟨B, hB⟩ : ∃ B, s.extract a (a + v) = B := ⟨_, rfl⟩
  have hBs : B.size = v := by rw [← hB, ByteArray.size_extract]; omega
  have HBd : Hid (B = ⟨((s.data.toList.drop a).take v).toArray⟩) := Lib.hid (by rw [← hB]; exact ext_bytes s a v)
  have q1 : ((a : Int) == 1) = true := by simp; omega
  have q2 : ((v : Int) == 1) = false := by simp; omega
  clear h1
  clear har hT ht hh
  unfold ReadTo
  go_enter Try.func29, Try.ntmps29
  go_wp2_with fail
  with_reducible refine HM.out.mono ?_
  rintro e w1 ⟨rfl, hw1⟩
  obtain ⟨ho1, ht1, hg1⟩ := met HT.out hw1
  have HO := Lib.hid ho1
  have HT1 := Lib.hid ht1
  have HG := Lib.hid hg1
  clear hw1 ho1 ht1 hg1 HM
  go_wp2_with fail
  with_reducible refine (HH.out _).mono ?_
  rintro e w2 ⟨rfl, rfl⟩
  go_wp2_with fail
  with_reducible refine (text_any B w1).mono ?_
  rintro e w3 ⟨rfl, hb3⟩
  have HO3 := Lib.hid (HO.out.below hb3)
  have HT3 := Lib.hid (HT1.out.below hb3)
  have HG3 := Lib.hid (gb_trans HG.out (gb_of hb3))
  clear hb3
  go_wp2_with (refine wpList_store_rowTo rfl 24 _ _ rfl rfl _ (itC (.mk false B []) none 0 0) rfl rfl 24 (itC it0 none 0 0) HO3.out.2 (info_itC _ _ _ _) rfl (itC_one _ _ _ _) ?_)
  refine bodyPost_ret (res_item1 rfl _ rfl (lies_row (setRow_heap _ _ _ _ _ _ HO3.out.2))) rfl ⟨none, 0, 0, ?_, ItsIn.nil _ _, tal_row HT3.out (by have := HT.out.lt; omega) _, gb_row HG3.out (Nat.le_refl _) _⟩
  show Ending.returned (.tuple #[itV (.mk false B []) none 0 0, .int .i64 ((a : Int) + (v : Int))]) = _
  rw [HBd.out]
  rfl

set_option maxRecDepth 100000 in
set_option maxHeartbeats 4000000 in
theorem read_text3 (s : ByteArray) (around k g : Nat) (ar : Int) (w : World) (a v : Nat) (har : ar = around) (ha : around ≤ 64) (hk2 : k + 1 ≤ 4096) (hT : Tal w g k) (hh : headE s.data.toList = .ok (false, a, v)) (hsz : s.size ≤ 9223372036854775807) (has : a + v ≤ s.size)
    (h1 : a = 1) (h2 : v = 1) (h3 : 128 ≤ ((s.data.toList.drop 1).headD 0).toNat) : ReadTo s g ar w (.ok (.mk false ⟨((s.data.toList.drop a).take v).toArray⟩ [], a + v, k + 1)) := by
  have HM := Lib.hid (meet_ok g ar k (by omega) (by omega) (by omega) (w.alloc (.cells #[.bool false, .string ⟨#[]⟩, .slice none 0 0] 24)) (hT.below (al1 _ _)))
  have HT := Lib.hid hT
  have ht := head_tells s
  rw [hh] at ht
  have HH : Hid (∀ w, Calls Try.prog 38 #[.string s] w fun e w' => e = .returned (.tuple #[.bool false, .int .i64 a, .int .u64 v]) ∧ w = w') := Lib.hid ht
  have hA : (s.size : Int) - (a : Int) = ((s.size - a : Nat) : Int) := by omega
  have hle : v ≤ s.size - a := by omega
  obtain ⟨B, hB⟩ : ∃ B, s.extract a (a + v) = B := ⟨_, rfl⟩
  have hBs : B.size = v := by rw [← hB, ByteArray.size_extract]; omega
  have HBd : Hid (B = ⟨((s.data.toList.drop a).take v).toArray⟩) := Lib.hid (by rw [← hB]; exact ext_bytes s a v)
  have q1 : ((a : Int) == 1) = true := by simp; omega
  have q2 : ((v : Int) == 1) = true := by simp; omega
  have q0 : 0 < B.size := by omega
  have q3 : 128 ≤ B[0].toNat := by
    rw [← first_of' q0, HBd.out, h1, h2]
    revert h3
    cases (s.data.toList.drop 1) <;> simp
  clear h1 h2 h3
  clear har hT ht hh
  unfold ReadTo
  go_enter Try.func29, Try.ntmps29
  go_wp2_with fail
  with_reducible refine HM.out.mono ?_
  rintro e w1 ⟨rfl, hw1⟩
  obtain ⟨ho1, ht1, hg1⟩ := met HT.out hw1
  have HO := Lib.hid ho1
  have HT1 := Lib.hid ht1
  have HG := Lib.hid hg1
  clear hw1 ho1 ht1 hg1 HM
  go_wp2_with fail
  with_reducible refine (HH.out _).mono ?_
  rintro e w2 ⟨rfl, rfl⟩
  go_wp2_with fail
  with_reducible refine (text_any B w1).mono ?_
  rintro e w3 ⟨rfl, hb3⟩
  have HO3 := Lib.hid (HO.out.below hb3)
  have HT3 := Lib.hid (HT1.out.below hb3)
  have HG3 := Lib.hid (gb_trans HG.out (gb_of hb3))
  clear hb3
  go_wp2_with (refine wpList_store_rowTo rfl 24 _ _ rfl rfl _ (itC (.mk false B []) none 0 0) rfl rfl 24 (itC it0 none 0 0) HO3.out.2 (info_itC _ _ _ _) rfl (itC_one _ _ _ _) ?_)
  refine bodyPost_ret (res_item1 rfl _ rfl (lies_row (setRow_heap _ _ _ _ _ _ HO3.out.2))) rfl ⟨none, 0, 0, ?_, ItsIn.nil _ _, tal_row HT3.out (by have := HT.out.lt; omega) _, gb_row HG3.out (Nat.le_refl _) _⟩
  show Ending.returned (.tuple #[itV (.mk false B []) none 0 0, .int .i64 ((a : Int) + (v : Int))]) = _
  rw [HBd.out]
  rfl

set_option maxRecDepth 100000 in
set_option maxHeartbeats 4000000 in
theorem read_one (s : ByteArray) (around k g : Nat) (ar : Int) (w : World) (a v : Nat) (har : ar = around) (ha : around ≤ 64) (hk2 : k + 1 ≤ 4096) (hT : Tal w g k) (hh : headE s.data.toList = .ok (false, a, v)) (hsz : s.size ≤ 9223372036854775807) (has : a + v ≤ s.size)
    (h1 : a = 1) (h2 : v = 1) (h3 : ((s.data.toList.drop 1).headD 0).toNat < 128) : ReadTo s g ar w (.error 6) := by
  have HM := Lib.hid (meet_ok g ar k (by omega) (by omega) (by omega) (w.alloc (.cells #[.bool false, .string ⟨#[]⟩, .slice none 0 0] 24)) (hT.below (al1 _ _)))
  have HT := Lib.hid hT
  have ht := head_tells s
  rw [hh] at ht
  have HH : Hid (∀ w, Calls Try.prog 38 #[.string s] w fun e w' => e = .returned (.tuple #[.bool false, .int .i64 a, .int .u64 v]) ∧ w = w') := Lib.hid ht
  have hA : (s.size : Int) - (a : Int) = ((s.size - a : Nat) : Int) := by omega
  have hle : v ≤ s.size - a := by omega
  obtain ⟨B, hB⟩ : ∃ B, s.extract a (a + v) = B := ⟨_, rfl⟩
  have hBs : B.size = v := by rw [← hB, ByteArray.size_extract]; omega
  have HBd : Hid (B = ⟨((s.data.toList.drop a).take v).toArray⟩) := Lib.hid (by rw [← hB]; exact ext_bytes s a v)
  have q1 : ((a : Int) == 1) = true := by simp; omega
  have q2 : ((v : Int) == 1) = true := by simp; omega
  have q0 : 0 < B.size := by omega
  have q3 : B[0].toNat < 128 := by
    rw [← first_of' q0, HBd.out, h1, h2]
    revert h3
    have hl : 0 < (s.data.toList.drop 1).length := by rw [List.length_drop, ← size_len]; omega
    revert hl
    cases (s.data.toList.drop 1) <;> simp
  clear h1 h2 h3
  clear har hT ht hh
  unfold ReadTo
  go_enter Try.func29, Try.ntmps29
  go_wp2_with fail
  with_reducible refine HM.out.mono ?_
  rintro e w1 ⟨rfl, hw1⟩
  obtain ⟨ho1, ht1, hg1⟩ := met HT.out hw1
  have HO := Lib.hid ho1
  have HT1 := Lib.hid ht1
  have HG := Lib.hid hg1
  clear hw1 ho1 ht1 hg1 HM
  go_wp2_with fail
  with_reducible refine (HH.out _).mono ?_
  rintro e w2 ⟨rfl, rfl⟩
  go_wp2_with (go_at_call 34; refine (fail_any _ _).mono ?_; rintro e w3 ⟨rfl, rfl⟩)
  simp [bodyPost]
  exact HG.out

set_option maxRecDepth 100000 in
set_option maxHeartbeats 4000000 in
theorem read_list (s : ByteArray) (around k g : Nat) (ar : Int) (w : World) (a v : Nat) (har : ar = around) (ha : around ≤ 64) (hk2 : k + 1 ≤ 4096) (hT : Tal w g k) (hh : headE s.data.toList = .ok (true, a, v)) (hsz : s.size ≤ 9223372036854775807) (has : a + v ≤ s.size)
    (hC : AllC (s.extract a (a + v))) : ReadTo s g ar w (match allL ((s.data.toList.drop a).take v) (around + 1) (k + 1) with
      | .error e => .error e
      | .ok (xs, k') => .ok (.mk true ⟨#[]⟩ xs, a + v, k')) := by
  have HM := Lib.hid (meet_ok g ar k (by omega) (by omega) (by omega) (w.alloc (.cells #[.bool false, .string ⟨#[]⟩, .slice none 0 0] 24)) (hT.below (al1 _ _)))
  have HT := Lib.hid hT
  have ht := head_tells s
  rw [hh] at ht
  have HH : Hid (∀ w, Calls Try.prog 38 #[.string s] w fun e w' => e = .returned (.tuple #[.bool true, .int .i64 a, .int .u64 v]) ∧ w = w') := Lib.hid ht
  have hA : (s.size : Int) - (a : Int) = ((s.size - a : Nat) : Int) := by omega
  have hle : v ≤ s.size - a := by omega
  have hBl : (s.extract a (a + v)).data.toList = (s.data.toList.drop a).take v := by rw [ext_bytes]
  obtain ⟨B, hB⟩ : ∃ B, s.extract a (a + v) = B := ⟨_, rfl⟩
  rw [hB] at hC hBl
  have HA := Lib.hid (fun (w1 : World) (ht : Tal w1 g (k + 1 : Nat)) => hC (around + 1) (k + 1) g (wrap64 (ar + 1)) w1 (by simp only [wrap64]; omega) (by omega) (by omega) ht)
  have hBs : B.size = v := by rw [← hB, ByteArray.size_extract]; omega
  rw [hBl] at HA
  clear har hT ht hh hBl hC
  cases hr : allL ((s.data.toList.drop a).take v) (around + 1) (k + 1) with
  | error c =>
    rw [hr] at HA
    clear hr
    have HA' : Hid (∀ w1, Tal w1 g (k + 1 : Nat) → Calls Try.prog 39 #[.pointer (some ⟨g, 0, none⟩), .string B, .int .i64 (wrap64 (ar + 1))] w1 fun e w' => e = .panicked [errP c] ∧ w1.grownBy w' (some g)) := Lib.hid HA.out
    clear HA
    dsimp only
    unfold ReadTo
    go_enter Try.func29, Try.ntmps29
    go_wp2_with fail
    with_reducible refine HM.out.mono ?_
    rintro e w1 ⟨rfl, hw1⟩
    obtain ⟨ho1, ht1, hg1⟩ := met HT.out hw1
    have HO := Lib.hid ho1
    have HT1 := Lib.hid ht1
    have HG := Lib.hid hg1
    clear hw1 ho1 ht1 hg1 HM
    go_wp2_with fail
    with_reducible refine (HH.out _).mono ?_
    rintro e w2 ⟨rfl, rfl⟩
    go_wp2_with fail
    with_reducible refine (HA'.out _ HT1.out).mono ?_
    rintro e w3 ⟨rfl, hg3⟩
    have HG3 := Lib.hid (gb_trans HG.out hg3)
    clear hg3
    go_wp2
    simp [bodyPost]
    exact HG3.out
  | ok r =>
    obtain ⟨xs, k'⟩ := r
    rw [hr] at HA
    clear hr
    have HA' : Hid (∀ w1, Tal w1 g (k + 1 : Nat) → Calls Try.prog 39 #[.pointer (some ⟨g, 0, none⟩), .string B, .int .i64 (wrap64 (ar + 1))] w1 fun e w' =>
      ∃ a nn cap, e = .returned (.slice a nn cap) ∧ ItsIn w1.heap.size w' xs a nn cap ∧ Tal w' g k' ∧ w1.grownBy w' (some g)) := Lib.hid HA.out
    clear HA
    dsimp only
    unfold ReadTo
    go_enter Try.func29, Try.ntmps29
    go_wp2_with fail
    with_reducible refine HM.out.mono ?_
    rintro e w1 ⟨rfl, hw1⟩
    obtain ⟨ho1, ht1, hg1⟩ := met HT.out hw1
    have HO := Lib.hid ho1
    have HT1 := Lib.hid ht1
    have HG := Lib.hid hg1
    clear hw1 ho1 ht1 hg1 HM
    go_wp2_with fail
    with_reducible refine (HH.out _).mono ?_
    rintro e w2 ⟨rfl, rfl⟩
    go_wp2_with fail
    with_reducible refine (HA'.out _ HT1.out).mono ?_
    rintro e w3 ⟨xa, xn, xc, rfl, hI3, ht3, hg3⟩
    have HO3 := Lib.hid (own_gb HO.out hg3 (by have := HT.out.lt; omega))
    have HI3 := Lib.hid (ItsIn_row hI3 HO.out.1)
    have HT3 := Lib.hid ht3
    have HG3 := Lib.hid (gb_trans HG.out hg3)
    have HS1 := Lib.hid HG.out.size
    clear hg3 hI3 ht3
    go_wp2_with (refine wpList_store_rowTo rfl 24 _ _ rfl rfl _ (itC (.mk true ⟨#[]⟩ xs) xa xn xc) rfl rfl 24 (itC it0 none 0 0) HO3.out.2 (info_itC _ _ _ _) rfl (itC_one _ _ _ _) ?_)
    refine bodyPost_ret (res_item1 rfl _ rfl (lies_row (setRow_heap _ _ _ _ _ _ HO3.out.2))) rfl ⟨xa, xn, xc, ?_, ItsIn.weak (HI3.out _) HS1.out, tal_row HT3.out (by have := HT.out.lt; omega) _, gb_row HG3.out (Nat.le_refl _) _⟩
    show Ending.returned (.tuple #[itV (.mk true ⟨#[]⟩ xs) xa xn xc, .int .i64 ((a : Int) + (v : Int))]) = _
    rfl

end Rl
end Go.Proofs.Ytmnihiagkmdepaa
