/-
  Contracts of wide.On and of Cut's methods, over a cut that the call itself has made, and over none.
-/
import Derived.Test.YtkhfbefaokefmaaWideA
namespace Go.Proofs.Ytkhfbefaokefmaa
open Go.RowKit WideP

namespace Cu
/-- the cut in block c: what is left, and its error -/
def At (c : Nat) (s : ByteArray) (err : Int) (w : World) : Prop := w.heap[c]? = some (.cells #[.string s, .int .i64 err] 46 (0, 0))

theorem At.cell0 {c : Nat} {s : ByteArray} {err : Int} {w : World} (h : At c s err w) : w.cell? ⟨c, 0, none⟩ = some (.string s) := by unfold At at h; simp [World.cell?, h]
theorem At.cell1 {c : Nat} {s : ByteArray} {err : Int} {w : World} (h : At c s err w) : w.cell? ⟨c, 1, none⟩ = some (.int .i64 err) := by unfold At at h; simp [World.cell?, h]
theorem At.free {c : Nat} {s : ByteArray} {err : Int} {w : World} (h : At c s err w) (j : Nat) : w.frozen? ⟨c, j, none⟩ = false := by unfold At at h; simp [World.frozen?, h]
theorem At.lt {c : Nat} {s : ByteArray} {err : Int} {w : World} (h : At c s err w) : c < w.heap.size := by
  unfold At at h
  rcases Nat.lt_or_ge c w.heap.size with h' | h'
  · exact h'
  · simp [Array.getElem?_eq_none h'] at h
theorem At.set0 {c : Nat} {s : ByteArray} {err : Int} {w : World} (h : At c s err w) (t : ByteArray) : At c t err (w.setCell ⟨c, 0, none⟩ (.string t)) := by
  unfold At at h ⊢; simp [World.setCell, Array.getElem?_modify, h]
theorem At.set1 {c : Nat} {s : ByteArray} {err : Int} {w : World} (h : At c s err w) (e : Int) : At c s e (w.setCell ⟨c, 1, none⟩ (.int .i64 e)) := by
  unfold At at h ⊢; simp [World.setCell, Array.getElem?_modify, h]
theorem grown_set (w : World) (c j : Nat) (v : Value) : w.grownBy (w.setCell ⟨c, j, none⟩ v) (some c) :=
  ⟨rfl, rfl, rfl, by simp [World.setCell], fun k _ hk => Below.heap_setCell _ _ _ _ (fun e => hk (by simp [e]))⟩
theorem grown_trans {w w1 w2 : World} {row : Option Nat} (h : w.grownBy w1 row) (k : w1.grownBy w2 row) : w.grownBy w2 row :=
  ⟨k.os.trans h.os, k.tape.trans h.tape, k.output.trans h.output, Nat.le_trans h.size k.size, fun i hi hr => (k.block i (Nat.lt_of_lt_of_le hi h.size) hr).trans (h.block i hi hr)⟩
theorem below_of {w w1 : World} (h : Below w.heap.size w w1) (row : Option Nat) : w.grownBy w1 row :=
  ⟨h.os, h.tape, h.output, h.size, fun k hk _ => h.block k hk⟩
theorem At.below {c : Nat} {s : ByteArray} {err : Int} {w w1 : World} (h : At c s err w) (hb : Below w.heap.size w w1) : At c s err w1 := by
  have := hb.block c h.lt
  unfold At at h ⊢; rw [this]; exact h

theorem on_any (s : ByteArray) (w : World) :
    Calls Try.prog 11 #[.string s] w fun e w' => e = .returned (.pointer (some ⟨w.heap.size, 0, none⟩)) ∧ w' = w.alloc (.cells #[.string s, .int .i64 0] 46) := by
  go_enter Try.func11, Try.ntmps11
  go_wp2
  go_ret
  exact ⟨rfl, rfl⟩

/-- nothing is taken of none -/
theorem take_nil (n : Int) (w : World) :
    Calls Try.prog 20 #[.pointer none, .int .i64 n] w fun e w' => e = .returned (.string ByteArray.empty) ∧ w = w' := by
  go_enter Try.func20, Try.ntmps20
  go_wp2
  go_ret
  exact ⟨rfl, rfl⟩

theorem take_neg (c : Nat) (s : ByteArray) (err n : Int) (hn : n < 0) (w : World) (h : At c s err w) :
    Calls Try.prog 20 #[.pointer (some ⟨c, 0, none⟩), .int .i64 n] w fun e w' => e = .returned (.string ByteArray.empty) ∧ At c ByteArray.empty 5 w' ∧ w.grownBy w' (some c) := by
  have c0 := h.cell0
  have c1 := h.cell1
  have f0 := h.free 0
  have f1 := h.free 1
  go_enter Try.func20, Try.ntmps20
  go_wp2
  go_ret
  exact ⟨rfl, (h.set0 _).set1 _, grown_trans (grown_set _ _ _ _) (grown_set _ _ _ _)⟩

theorem take_big (c : Nat) (s : ByteArray) (err n : Int) (hn : (s.size : Int) < n) (w : World) (h : At c s err w) :
    Calls Try.prog 20 #[.pointer (some ⟨c, 0, none⟩), .int .i64 n] w fun e w' => e = .returned (.string ByteArray.empty) ∧ At c ByteArray.empty 5 w' ∧ w.grownBy w' (some c) := by
  have c0 := h.cell0
  have c1 := h.cell1
  have f0 := h.free 0
  have f1 := h.free 1
  have hn0 : 0 ≤ n := by omega
  go_enter Try.func20, Try.ntmps20
  go_wp2
  go_ret
  exact ⟨rfl, (h.set0 _).set1 _, grown_trans (grown_set _ _ _ _) (grown_set _ _ _ _)⟩

theorem take_in (c : Nat) (s : ByteArray) (err : Int) (n : Nat) (hn : n ≤ s.size) (w : World) (h : At c s err w) :
    Calls Try.prog 20 #[.pointer (some ⟨c, 0, none⟩), .int .i64 n] w fun e w' => e = .returned (.string (s.extract 0 n)) ∧ At c (s.extract n s.size) err w' ∧ w.grownBy w' (some c) := by
  have c0 := h.cell0
  have c1 := h.cell1
  have f0 := h.free 0
  have f1 := h.free 1
  go_enter Try.func20, Try.ntmps20
  go_wp2
  go_ret
  exact ⟨rfl, h.set0 _, grown_set _ _ _ _⟩

/-- are there so many? -/
def okN (s : ByteArray) (n : Int) : Bool := decide (0 ≤ n ∧ n ≤ s.size)
/-- what is taken; what is left; the error behind it -/
def outN (s : ByteArray) (n : Int) : ByteArray := if okN s n then s.extract 0 n.toNat else ByteArray.empty
def leftN (s : ByteArray) (n : Int) : ByteArray := if okN s n then s.extract n.toNat s.size else ByteArray.empty
def errN (s : ByteArray) (err n : Int) : Int := if okN s n then err else 5

theorem outN_size (s : ByteArray) (n : Int) : (outN s n).size ≤ s.size := by
  unfold outN okN
  split
  · simp; omega
  · exact Nat.zero_le _
theorem leftN_size (s : ByteArray) (n : Int) : (leftN s n).size ≤ s.size := by
  unfold leftN okN
  split
  · simp
  · exact Nat.zero_le _

theorem take_any (c : Nat) (s : ByteArray) (err n : Int) (w : World) (h : At c s err w) :
    Calls Try.prog 20 #[.pointer (some ⟨c, 0, none⟩), .int .i64 n] w fun e w' => e = .returned (.string (outN s n)) ∧ At c (leftN s n) (errN s err n) w' ∧ w.grownBy w' (some c) := by
  by_cases h0 : n < 0
  · have ho : okN s n = false := by unfold okN; simp; omega
    simp only [outN, leftN, errN, ho]
    exact take_neg c s err n h0 w h
  · by_cases h1 : n ≤ s.size
    · have ho : okN s n = true := by unfold okN; simp; omega
      simp only [outN, leftN, errN, ho]
      obtain ⟨m, rfl⟩ := Int.eq_ofNat_of_zero_le (show 0 ≤ n by omega)
      exact take_in c s err m (by omega) w h
    · have ho : okN s n = false := by unfold okN; simp; omega
      simp only [outN, leftN, errN, ho]
      exact take_big c s err n (by omega) w h

/-- how many bytes Num takes: a width that is none takes below 0 -/
def widN (b : Int) : Int := if 1 ≤ b ∧ b ≤ 8 then b else -1

theorem num_low (c : Nat) (s : ByteArray) (err b : Int) (hs : s.size ≤ maxLen) (hb : b < 1) (w : World) (h : At c s err w) :
    Calls Try.prog 19 #[.pointer (some ⟨c, 0, none⟩), .int .i64 b] w fun e w' => e = .returned (.int .u64 (valL ((outN s (-1)).data.toList.take 8))) ∧ At c (leftN s (-1)) (errN s err (-1)) w' ∧ w.grownBy w' (some c) := by
  go_enter Try.func19, Try.ntmps19
  go_wp2_with (go_at_call 20; refine (take_any c s err _ _ h).mono ?_)
  rintro e w1 ⟨rfl, h1, hg⟩
  go_wp2_with (go_at_call 15; refine (val_any _ _ (Nat.le_trans (outN_size s _) hs)).mono ?_; rintro e w2 ⟨rfl, rfl⟩)
  go_ret
  exact ⟨rfl, h1, hg⟩
theorem num_high (c : Nat) (s : ByteArray) (err b : Int) (hs : s.size ≤ maxLen) (hb : 8 < b) (w : World) (h : At c s err w) :
    Calls Try.prog 19 #[.pointer (some ⟨c, 0, none⟩), .int .i64 b] w fun e w' => e = .returned (.int .u64 (valL ((outN s (-1)).data.toList.take 8))) ∧ At c (leftN s (-1)) (errN s err (-1)) w' ∧ w.grownBy w' (some c) := by
  have hb1 : 1 ≤ b := by omega
  go_enter Try.func19, Try.ntmps19
  go_wp2_with (go_at_call 20; refine (take_any c s err _ _ h).mono ?_)
  rintro e w1 ⟨rfl, h1, hg⟩
  go_wp2_with (go_at_call 15; refine (val_any _ _ (Nat.le_trans (outN_size s _) hs)).mono ?_; rintro e w2 ⟨rfl, rfl⟩)
  go_ret
  exact ⟨rfl, h1, hg⟩
theorem num_in (c : Nat) (s : ByteArray) (err b : Int) (hs : s.size ≤ maxLen) (hb : 1 ≤ b) (hb8 : b ≤ 8) (w : World) (h : At c s err w) :
    Calls Try.prog 19 #[.pointer (some ⟨c, 0, none⟩), .int .i64 b] w fun e w' => e = .returned (.int .u64 (valL ((outN s b).data.toList.take 8))) ∧ At c (leftN s b) (errN s err b) w' ∧ w.grownBy w' (some c) := by
  go_enter Try.func19, Try.ntmps19
  go_wp2_with (go_at_call 20; refine (take_any c s err _ _ h).mono ?_)
  rintro e w1 ⟨rfl, h1, hg⟩
  go_wp2_with (go_at_call 15; refine (val_any _ _ (Nat.le_trans (outN_size s _) hs)).mono ?_; rintro e w2 ⟨rfl, rfl⟩)
  go_ret
  exact ⟨rfl, h1, hg⟩
theorem num_any (c : Nat) (s : ByteArray) (err b : Int) (hs : s.size ≤ maxLen) (w : World) (h : At c s err w) :
    Calls Try.prog 19 #[.pointer (some ⟨c, 0, none⟩), .int .i64 b] w fun e w' => e = .returned (.int .u64 (valL ((outN s (widN b)).data.toList.take 8))) ∧ At c (leftN s (widN b)) (errN s err (widN b)) w' ∧ w.grownBy w' (some c) := by
  unfold widN
  by_cases hb : b < 1
  · rw [if_neg (by omega)]; exact num_low c s err b hs hb w h
  · by_cases hb8 : b ≤ 8
    · rw [if_pos (by omega)]; exact num_in c s err b hs (by omega) hb8 w h
    · rw [if_neg (by omega)]; exact num_high c s err b hs (by omega) w h

/-- how long the next text within the text says it is -/
def lenT (s : ByteArray) : Nat := valL ((outN s 4).data.toList.take 8)
def outT (s : ByteArray) : ByteArray := outN (leftN s 4) (lenT s)
def leftT (s : ByteArray) : ByteArray := leftN (leftN s 4) (lenT s)
def errT (s : ByteArray) (err : Int) : Int := errN (leftN s 4) (errN s err 4) (lenT s)

theorem lenT_lt (s : ByteArray) : lenT s < 4294967296 := by
  unfold lenT
  have h : ((outN s 4).data.toList.take 8).length ≤ 4 := by
    have : (outN s 4).size ≤ 4 := by
      unfold outN
      split
      · simp; omega
      · exact Nat.zero_le _
    rw [List.length_take]
    have e : (outN s 4).data.toList.length = (outN s 4).size := by simp
    omega
  have h1 := valL_lt ((outN s 4).data.toList.take 8)
  have h2 : (256 : Nat) ^ ((outN s 4).data.toList.take 8).length ≤ 256 ^ 4 := Nat.pow_le_pow_right (by omega) h
  omega

theorem text_any (c : Nat) (s : ByteArray) (err : Int) (hs : s.size ≤ maxLen) (w : World) (h : At c s err w) :
    Calls Try.prog 13 #[.pointer (some ⟨c, 0, none⟩)] w fun e w' => e = .returned (.string (outT s)) ∧ At c (leftT s) (errT s err) w' ∧ w.grownBy w' (some c) := by
  have hl := lenT_lt s
  have hn : ∀ w, At c s err w → Calls Try.prog 19 #[.pointer (some ⟨c, 0, none⟩), .int .i64 4] w fun e w' => e = .returned (.int .u64 (lenT s : Nat)) ∧ At c (leftN s 4) (errN s err 4) w' ∧ w.grownBy w' (some c) := fun w h => num_any c s err 4 hs w h
  have HN := Lib.hid hn
  clear hn
  go_enter Try.func13, Try.ntmps13
  go_wp2_with (go_at_call 19; refine (HN.out _ h).mono ?_)
  rintro e w1 ⟨rfl, h1, hg1⟩
  go_wp2_with (go_at_call 20; refine (take_any c _ _ _ _ h1).mono ?_)
  rintro e w2 ⟨rfl, h2, hg2⟩
  go_wp2
  go_ret
  exact ⟨rfl, h2, grown_trans hg1 hg2⟩

theorem rest_any (c : Nat) (s : ByteArray) (err : Int) (w : World) (h : At c s err w) :
    Calls Try.prog 17 #[.pointer (some ⟨c, 0, none⟩)] w fun e w' => e = .returned (.string s) ∧ w = w' := by
  have c0 := h.cell0
  go_enter Try.func17, Try.ntmps17
  go_wp2
  go_ret
  exact ⟨rfl, rfl⟩
theorem err_any (c : Nat) (s : ByteArray) (err : Int) (w : World) (h : At c s err w) :
    Calls Try.prog 18 #[.pointer (some ⟨c, 0, none⟩)] w fun e w' => e = .returned (.int .i64 err) ∧ w = w' := by
  have c1 := h.cell1
  go_enter Try.func18, Try.ntmps18
  go_wp2
  go_ret
  exact ⟨rfl, rfl⟩
theorem rest_nil (w : World) :
    Calls Try.prog 17 #[.pointer none] w fun e w' => e = .returned (.string ByteArray.empty) ∧ w = w' := by
  go_enter Try.func17, Try.ntmps17
  go_wp2
  go_ret
  exact ⟨rfl, rfl⟩
theorem err_nil (w : World) :
    Calls Try.prog 18 #[.pointer none] w fun e w' => e = .returned (.int .i64 1) ∧ w = w' := by
  go_enter Try.func18, Try.ntmps18
  go_wp2
  go_ret
  exact ⟨rfl, rfl⟩
theorem num_nil (b : Int) (w : World) (hb : 1 ≤ b) (hb8 : b ≤ 8) :
    Calls Try.prog 19 #[.pointer none, .int .i64 b] w fun e w' => e = .returned (.int .u64 0) ∧ w = w' := by
  go_enter Try.func19, Try.ntmps19
  go_wp2_with (go_at_call 20; refine (take_nil _ _).mono ?_; rintro e w2 ⟨rfl, rfl⟩)
  go_wp2_with (go_at_call 15; refine (val_any _ _ (Nat.zero_le _)).mono ?_; rintro e w2 ⟨rfl, rfl⟩)
  go_ret
  exact ⟨rfl, rfl⟩
theorem text_nil (w : World) :
    Calls Try.prog 13 #[.pointer none] w fun e w' => e = .returned (.string ByteArray.empty) ∧ w = w' := by
  go_enter Try.func13, Try.ntmps13
  go_wp2_with (first | (go_at_call 19; refine (num_nil 4 _ (by omega) (by omega)).mono ?_; rintro e w2 ⟨rfl, rfl⟩) | (go_at_call 20; refine (take_nil _ _).mono ?_; rintro e w2 ⟨rfl, rfl⟩))
  go_ret
  exact ⟨rfl, rfl⟩
end Cu
end Go.Proofs.Ytkhfbefaokefmaa
