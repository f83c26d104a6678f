/-
  The contract of sum.schedule.
-/
import Derived.Test.YtlembfhdljmcoaaDoorMb2
import Derived.BigRegion
import Derived.Great.BuildSlice
import Derived.Laws.Rows
import Derived.Laws.ResultCell
import Derived.Test.YtlembfhdljmcoaaDoorMb1
import Derived.Deep.QuietTactic
import Derived.BigQuiet
set_option linter.unusedSimpArgs false
set_option linter.unusedVariables false
namespace Go.Proofs.YtlembfhdljmcoaaDoor
set_option maxRecDepth 20000
open Go.RowKit

namespace Sm
open Sh
/-- words as an array's cells -/
def ac (l : List Nat) : Array Value := (l.map fun (x : Nat) => Value.int .u32 (x : Int)).toArray
theorem ac_size (l : List Nat) : (ac l).size = l.length := by simp [ac]
theorem ac_get (l : List Nat) (j : Nat) (h : j < l.length) : (ac l)[j]? = some (.int .u32 (l.getD j 0 : Nat)) := by simp [ac, List.getD, h]
theorem ac_one (l : List Nat) : (ac l).all (·.oneCell') = true := by
  rw [Array.all_eq_true]
  intro i hi
  simp [ac]
  rfl
theorem info_64 : (Tryd.prog.info? 87).map (·.size) = some 64 := by kernel_rfl
theorem info_8 : (Tryd.prog.info? 77).map (·.size) = some 8 := by kernel_rfl
/-- a row of the call's own whose cells are these words -/
theorem ac_of {w : World} {g : Nat} {t : TypeId} {n : Nat} {f : Nat → Value} (l : List Nat) (h : w.rowIs g t n f) (hl : l.length = n) (hf : ∀ j, j < n → f j = .int .u32 (l.getD j 0 : Nat)) : w.heap[g]? = some (.cells (ac l) t (0, 0)) := by
  obtain ⟨c, hg, hs, hc⟩ := h
  have : c = ac l := by
    apply Array.ext
    · rw [hs, ac_size, hl]
    · intro i hi _
      have h1 := hc i (by omega)
      rw [hf i (by omega), ← ac_get l i (by omega)] at h1
      have h2 : c[i]? = some c[i] := Array.getElem?_eq_getElem hi
      rw [h2] at h1
      have h3 : i < (ac l).size := by rw [ac_size]; omega
      rw [Array.getElem?_eq_getElem h3] at h1
      exact Option.some.inj h1
  rw [hg, this]
theorem below_row {B : Nat} {w w1 : World} (h : Below B w w1) {g : Nat} (hg : B ≤ g) (cs : Array Value) : Below B w (w1.setRow g cs) :=
  h.trans ⟨rfl, rfl, rfl, by simp, fun k hk => setRow_other w1 g k cs (by omega)⟩
/-- an array of the call's own, some words of it laid -/
def Row (w : World) (g : Nat) (t : TypeId) (n : Nat) (l : List Nat) : Prop := w.rowIs g t n (fun j => .int .u32 (l.getD j 0 : Nat))
theorem Row.put {w : World} {g : Nat} {t : TypeId} {n : Nat} {l : List Nat} (h : Row w g t n l) (x : Nat) : Row (w.setCell ⟨g, l.length, none⟩ (.int .u32 x)) g t n (l ++ [x]) :=
  (World.rowIs.set h l.length _).congr fun j _ => by
    by_cases e : j = l.length
    · subst e; simp
    · rw [if_neg e]
      by_cases e2 : j < l.length
      · simp [List.getD, List.getElem?_append_left e2]
      · rw [List.getD, List.getElem?_eq_none (by omega), List.getD, List.getElem?_eq_none (by simp; omega)]

/-- the array of nothing -/
def za (n : Nat) : Array Value := ac (List.replicate n 0)
theorem Row.zero (w : World) (t : TypeId) (n : Nat) : Row (w.alloc (.cells (za n) t)) w.heap.size t n [] := by
  have h := World.rowIs_alloc w (za n) t (fun _ => .int .u32 (([] : List Nat).getD 0 0 : Nat)) (fun i hi => by
    have hi' : i < n := by simpa [za, ac] using hi
    simp [za, ac, hi'])
  have e : (za n).size = n := by simp [za, ac]
  rw [e] at h
  exact h.congr fun j _ => by simp
theorem run_alloc_64 (ev : Operand → Value) (o : Oper) (ho : o.op = .alloc 87) (w : World) :
    (execOp ev o).run Tryd.prog w = .ok (.value (.pointer (some ⟨w.heap.size, 0, none⟩))) (w.alloc (.cells (za 64) 87)) := by
  unfold execOp
  rw [ho]
  kernel_rfl
theorem run_alloc_8 (ev : Operand → Value) (o : Oper) (ho : o.op = .alloc 77) (w : World) :
    (execOp ev o).run Tryd.prog w = .ok (.value (.pointer (some ⟨w.heap.size, 0, none⟩))) (w.alloc (.cells (za 8) 77)) := by
  unfold execOp
  rw [ho]
  kernel_rfl

theorem or_1 (a b : Nat) (ha : a < 256) (hb : b < 256) : bits .or .u32 ((a : Int) * 16777216) ((b : Int) * 65536) = ((a * 16777216 + b * 65536 : Nat) : Int) := by
  have := u32_or_nat (a * 16777216) (b * 65536) (by omega) (by omega)
  rw [nat_join 24 _ _ (by omega) (by omega)] at this
  simpa using this
theorem or_2 (a c : Nat) (ha : a < 65536) (hc : c < 256) : bits .or .u32 ((a * 65536 : Nat) : Int) ((c : Int) * 256) = ((a * 65536 + c * 256 : Nat) : Int) := by
  have := u32_or_nat (a * 65536) (c * 256) (by omega) (by omega)
  rw [nat_join 16 _ _ (by omega) (by omega)] at this
  simpa using this
theorem or_3 (a d : Nat) (ha : a < 16777216) (hd : d < 256) : bits .or .u32 ((a * 256 : Nat) : Int) (d : Int) = ((a * 256 + d : Nat) : Int) := by
  have := u32_or_nat (a * 256) d (by omega) (by omega)
  rw [nat_join 8 _ _ (by omega) (by omega)] at this
  simpa using this
theorem wordP_4 (g : Nat → Nat) (k : Nat) : wordP g k 4 = ((g (4 * k) * 256 + g (4 * k + 1)) * 256 + g (4 * k + 2)) * 256 + g (4 * k + 3) := by
  simp only [wordP, Nat.add_zero]
  omega

/-- a text's byte, read -/
theorem run_index_at (t : TypeId) (ht : Tryd.prog.underlying t = some .string) (s : ByteArray) (i v : Nat) (n : Int) (hn : n = i) (hi : i < s.size) (hv : s[i].toNat = v) (w : World) :
    (Instr.index t (.string s) (.int .i64 n)).run Tryd.prog w = .ok (.int .u8 v) w := by
  subst hn hv
  rw [run_index_string w _ _ _ _ ht]
  simp [hi]

theorem run_index_op (ev : Operand → Value) (o : Oper) (T : TypeId) (hT : Tryd.prog.underlying T = some .string) (s : ByteArray) (i v : Nat) (n : Int) (ho : ∃ x y, o.op = .index T x y ∧ ev x = .string s ∧ ev y = .int .i64 n) (hn : n = i)
    (hv : ∃ h : i < s.size, s[i].toNat = v) (w : World) : (execOp ev o).run Tryd.prog w = .ok (.value (.int .u8 v)) w := by
  obtain ⟨x, y, ho, hx, hy⟩ := ho
  have h := run_index_at T hT s i v n hn hv.1 hv.2 w
  unfold execOp
  rw [ho]
  simp only [hx, hy]
  simp [h]

set_option maxRecDepth 100000 in
set_option maxHeartbeats 4000000 in
theorem schedule_any (s : ByteArray) (hs : 64 ≤ s.size) (hsm : s.size ≤ 1000000) (w : World) :
    Calls Tryd.prog 45 #[.string s] w fun e w' => e = .returned (.agg (ac (schW (byteAt s) 64))) ∧ Below w.heap.size w w' := by
  have HQ := Lib.hid (byteAt_eq s)
  have HG := Lib.hid (byteAt_lt s)
  have hR0 := Row.zero (w.alloc (.cells (za 64) 87)) 87 64
  rw [show (w.alloc (.cells (za 64) 87)).heap.size = w.heap.size + 1 by simp] at hR0
  have HR0 := Lib.hid hR0
  clear hR0
  obtain ⟨g, hg⟩ : ∃ g, byteAt s = g := ⟨_, rfl⟩
  rw [hg] at HQ HG ⊢
  clear hg
  go_enter Tryd.func45, Tryd.ntmps45
  go_wp2_with (refine wpList_run rfl _ _ (run_alloc_64 _ _ rfl _) ?_)
  go_loopw [8] (fun i wr => ∃ k : Nat, k ≤ 16 ∧ i = .int .i64 k ∧ Hid (Row wr (w.heap.size + 1) 87 64 (schW g k)) ∧ Below (w.heap.size + 1) (w.alloc (.cells (za 64) 87)) wr) (fun i _ => 16 - (intOf i).toNat)
  case atStart => exact ⟨0, by omega, rfl, HR0, (Below.refl _ _).alloc (by simp) _⟩
  case round =>
    obtain ⟨k, hk, rfl, HR, hB⟩ := hrel
    by_cases hlt : k < 16
    · have p0 : 4 * k < s.size := by omega
      have p1 : 4 * k + 1 < s.size := by omega
      have p2 : 4 * k + 2 < s.size := by omega
      have p3 : 4 * k + 3 < s.size := by omega
      have q0 := HQ.out _ p0
      have q1 := HQ.out _ p1
      have q2 := HQ.out _ p2
      have q3 := HQ.out _ p3
      have g0 := HG.out (4 * k)
      have g1 := HG.out (4 * k + 1)
      have g2 := HG.out (4 * k + 2)
      have g3 := HG.out (4 * k + 3)
      have hc := HR.out.cell (i := k) (by omega)
      have hf := HR.out.frozen k
      have HN : Hid (Row (wr.setCell ⟨w.heap.size + 1, k, none⟩ (.int .u32 (wordP g k 4 : Nat))) (w.heap.size + 1) 87 64 (schW g (k + 1))) := Lib.hid (by
        have := Row.put HR.out (wordP g k 4)
        rw [schW_length] at this
        rw [schW, nextW, if_pos hlt]
        exact this)
      have HW := sec (wordP_4 g k)
      obtain ⟨a, ha⟩ : ∃ a, g (4 * k) = a := ⟨_, rfl⟩
      obtain ⟨b, hb⟩ : ∃ a, g (4 * k + 1) = a := ⟨_, rfl⟩
      obtain ⟨c, hc'⟩ : ∃ a, g (4 * k + 2) = a := ⟨_, rfl⟩
      obtain ⟨d, hd⟩ : ∃ a, g (4 * k + 3) = a := ⟨_, rfl⟩
      rw [ha, hb, hc', hd] at HW
      rw [ha] at q0 g0
      rw [hb] at q1 g1
      rw [hc'] at q2 g2
      rw [hd] at q3 g3
      clear ha hb hc' hd
      have o1 := or_1 a b g0 g1
      have o2 := or_2 (a * 256 + b) c (by omega) g2
      have o3 := or_3 ((a * 256 + b) * 256 + c) d (by omega) g3
      rw [show (a * 256 + b) * 65536 = a * 16777216 + b * 65536 by omega] at o2
      rw [show ((a * 256 + b) * 256 + c) * 256 = a * 16777216 + b * 65536 + c * 256 by omega] at o3
      rw [show a * 16777216 + b * 65536 + c * 256 + d = wordP g k 4 by rw [HW.out]; omega] at o3
      obtain ⟨y2, hy2⟩ : ∃ y, a * 16777216 + b * 65536 + c * 256 = y := ⟨_, rfl⟩
      rw [hy2] at o2 o3
      obtain ⟨y1, hy1⟩ : ∃ y, a * 16777216 + b * 65536 = y := ⟨_, rfl⟩
      rw [hy1] at o1 o2
      clear hy1 hy2
      obtain ⟨W, hWe⟩ : ∃ W, wordP g k 4 = W := ⟨_, rfl⟩
      rw [hWe] at o3 HN
      clear hWe HW
      have O1 := sec o1
      have O2 := sec o2
      have O3 := sec o3
      clear o1 o2 o3
      have l4 : (0 : Int) ≤ (k : Int) := by omega
      have l5 : (k : Int) < 64 := by omega
      have va : IntKind.u32.wrap (a : Int) = a := by rw [IntKind.wrap_u32']; omega
      have vb : IntKind.u32.wrap (b : Int) = b := by rw [IntKind.wrap_u32']; omega
      have vc : IntKind.u32.wrap (c : Int) = c := by rw [IntKind.wrap_u32']; omega
      have vd : IntKind.u32.wrap (d : Int) = d := by rw [IntKind.wrap_u32']; omega
      have va2 : IntKind.u32.wrap ((a : Int) * 16777216) = (a : Int) * 16777216 := by rw [IntKind.wrap_u32']; omega
      have vb2 : IntKind.u32.wrap ((b : Int) * 65536) = (b : Int) * 65536 := by rw [IntKind.wrap_u32']; omega
      have vc2 : IntKind.u32.wrap ((c : Int) * 256) = (c : Int) * 256 := by rw [IntKind.wrap_u32']; omega
      have w0 : IntKind.i64.wrap (4 * (k : Int)) = 4 * (k : Int) := IntWalk.i64_in _ (by omega)
      have w1 : IntKind.i64.wrap (4 * (k : Int) + 1) = 4 * (k : Int) + 1 := IntWalk.i64_in _ (by omega)
      have w2 : IntKind.i64.wrap (4 * (k : Int) + 2) = 4 * (k : Int) + 2 := IntWalk.i64_in _ (by omega)
      have w3 : IntKind.i64.wrap (4 * (k : Int) + 3) = 4 * (k : Int) + 3 := IntWalk.i64_in _ (by omega)
      have Q0 : Sec (∃ h : 4 * k < s.size, s[4 * k].toNat = a) := sec ⟨p0, q0⟩
      have Q1 : Sec (∃ h : 4 * k + 1 < s.size, s[4 * k + 1].toNat = b) := sec ⟨p1, q1⟩
      have Q2 : Sec (∃ h : 4 * k + 2 < s.size, s[4 * k + 2].toNat = c) := sec ⟨p2, q2⟩
      have Q3 : Sec (∃ h : 4 * k + 3 < s.size, s[4 * k + 3].toNat = d) := sec ⟨p3, q3⟩
      clear p0 p1 p2 p3 q0 q1 q2 q3
      go_wp2_with fail
      refine wp_region_noPanic ?_
      refine wp_region_held_drew (S := fun _ => True) (by kernel_rfl) (trivial) (fun hHeld => ?_)
      refine Rg.takeL (i := 0) (v := ?_) rfl (by kernel_rfl) (by kernel_rfl) (by kernel_rfl) (fun _ _ _ h => h) (Or.inl ⟨by rfl, ?_⟩) (by assumption) ?_
      rotate_left
      · (intro wz hSw; (try dsimp only at hSw); go_simp <;> with_reducible rfl)
      try simp only [Act.put, List.setIfInBounds_toArray, List.set_cons_zero, List.set_cons_succ]
      refine Rg.takeL (i := 1) (v := ?_) rfl (by kernel_rfl) (by kernel_rfl) (by kernel_rfl) (fun _ _ _ h => h) (Or.inl ⟨by rfl, ?_⟩) (by assumption) ?_
      rotate_left
      · (intro wz hSw; (try dsimp only at hSw); go_simp <;> with_reducible rfl)
      try simp only [Act.put, List.setIfInBounds_toArray, List.set_cons_zero, List.set_cons_succ]
      refine Rg.takeL (i := 2) (v := ?_) rfl (by kernel_rfl) (by kernel_rfl) (by kernel_rfl) (fun _ _ _ h => h) (Or.inl ⟨by rfl, ?_⟩) (by assumption) ?_
      rotate_left
      · (intro wz hSw; (try dsimp only at hSw); go_simp <;> with_reducible rfl)
      try simp only [Act.put, List.setIfInBounds_toArray, List.set_cons_zero, List.set_cons_succ]
      refine Rg.takeL (i := 3) (v := ?_) rfl (by kernel_rfl) (by kernel_rfl) (by kernel_rfl) (fun _ _ _ h => h) (Or.inl ⟨by rfl, ?_⟩) (by assumption) ?_
      rotate_left
      · (intro wz hSw; (try dsimp only at hSw); go_simp <;> with_reducible rfl)
      try simp only [Act.put, List.setIfInBounds_toArray, List.set_cons_zero, List.set_cons_succ]
      refine Rg.takeL (i := 4) (v := ?_) rfl (by kernel_rfl) (by kernel_rfl) (by kernel_rfl) (fun _ _ _ h => h) (Or.inl ⟨by rfl, ?_⟩) (by assumption) ?_
      rotate_left
      · (intro wz hSw; refine run_index_op _ _ 9 Tryd.underlying9 s (4 * k) a (4 * (k : Int)) ?_ (by omega) Q0.out wz; exact ⟨_, _, rfl, rfl, rfl⟩)
      try simp only [Act.put, List.setIfInBounds_toArray, List.set_cons_zero, List.set_cons_succ]
      refine Rg.takeL (i := 5) (v := ?_) rfl (by kernel_rfl) (by kernel_rfl) (by kernel_rfl) (fun _ _ _ h => h) (Or.inl ⟨by rfl, ?_⟩) (by assumption) ?_
      rotate_left
      · (intro wz hSw; (try dsimp only at hSw); go_simp <;> with_reducible rfl)
      try simp only [Act.put, List.setIfInBounds_toArray, List.set_cons_zero, List.set_cons_succ]
      refine Rg.takeL (i := 6) (v := ?_) rfl (by kernel_rfl) (by kernel_rfl) (by kernel_rfl) (fun _ _ _ h => h) (Or.inl ⟨by rfl, ?_⟩) (by assumption) ?_
      rotate_left
      · (intro wz hSw; (try dsimp only at hSw); go_simp <;> with_reducible rfl)
      try simp only [Act.put, List.setIfInBounds_toArray, List.set_cons_zero, List.set_cons_succ]
      refine Rg.takeL (i := 7) (v := ?_) rfl (by kernel_rfl) (by kernel_rfl) (by kernel_rfl) (fun _ _ _ h => h) (Or.inl ⟨by rfl, ?_⟩) (by assumption) ?_
      rotate_left
      · (intro wz hSw; (try dsimp only at hSw); go_simp <;> with_reducible rfl)
      try simp only [Act.put, List.setIfInBounds_toArray, List.set_cons_zero, List.set_cons_succ]
      refine Rg.takeL (i := 8) (v := ?_) rfl (by kernel_rfl) (by kernel_rfl) (by kernel_rfl) (fun _ _ _ h => h) (Or.inl ⟨by rfl, ?_⟩) (by assumption) ?_
      rotate_left
      · (intro wz hSw; (try dsimp only at hSw); go_simp <;> with_reducible rfl)
      try simp only [Act.put, List.setIfInBounds_toArray, List.set_cons_zero, List.set_cons_succ]
      refine Rg.takeL (i := 9) (v := ?_) rfl (by kernel_rfl) (by kernel_rfl) (by kernel_rfl) (fun _ _ _ h => h) (Or.inl ⟨by rfl, ?_⟩) (by assumption) ?_
      rotate_left
      · (intro wz hSw; (try dsimp only at hSw); go_simp <;> with_reducible rfl)
      try simp only [Act.put, List.setIfInBounds_toArray, List.set_cons_zero, List.set_cons_succ]
      refine Rg.takeL (i := 10) (v := ?_) rfl (by kernel_rfl) (by kernel_rfl) (by kernel_rfl) (fun _ _ _ h => h) (Or.inl ⟨by rfl, ?_⟩) (by assumption) ?_
      rotate_left
      · (intro wz hSw; (try dsimp only at hSw); go_simp <;> with_reducible rfl)
      try simp only [Act.put, List.setIfInBounds_toArray, List.set_cons_zero, List.set_cons_succ]
      refine Rg.takeL (i := 11) (v := ?_) rfl (by kernel_rfl) (by kernel_rfl) (by kernel_rfl) (fun _ _ _ h => h) (Or.inl ⟨by rfl, ?_⟩) (by assumption) ?_
      rotate_left
      · (intro wz hSw; refine run_index_op _ _ 9 Tryd.underlying9 s (4 * k + 1) b (4 * (k : Int) + 1) ?_ (by omega) Q1.out wz; exact ⟨_, _, rfl, rfl, rfl⟩)
      try simp only [Act.put, List.setIfInBounds_toArray, List.set_cons_zero, List.set_cons_succ]
      refine Rg.takeL (i := 12) (v := ?_) rfl (by kernel_rfl) (by kernel_rfl) (by kernel_rfl) (fun _ _ _ h => h) (Or.inl ⟨by rfl, ?_⟩) (by assumption) ?_
      rotate_left
      · (intro wz hSw; (try dsimp only at hSw); go_simp <;> with_reducible rfl)
      try simp only [Act.put, List.setIfInBounds_toArray, List.set_cons_zero, List.set_cons_succ]
      refine Rg.takeL (i := 13) (v := ?_) rfl (by kernel_rfl) (by kernel_rfl) (by kernel_rfl) (fun _ _ _ h => h) (Or.inl ⟨by rfl, ?_⟩) (by assumption) ?_
      rotate_left
      · (intro wz hSw; (try dsimp only at hSw); go_simp <;> with_reducible rfl)
      try simp only [Act.put, List.setIfInBounds_toArray, List.set_cons_zero, List.set_cons_succ]
      refine Rg.takeL (i := 14) (v := ?_) rfl (by kernel_rfl) (by kernel_rfl) (by kernel_rfl) (fun _ _ _ h => h) (Or.inl ⟨by rfl, ?_⟩) (by assumption) ?_
      rotate_left
      · (intro wz hSw; (try dsimp only at hSw); go_simp <;> with_reducible rfl)
      try simp only [Act.put, List.setIfInBounds_toArray, List.set_cons_zero, List.set_cons_succ]
      refine Rg.takeL (i := 15) (v := ?_) rfl (by kernel_rfl) (by kernel_rfl) (by kernel_rfl) (fun _ _ _ h => h) (Or.inl ⟨by rfl, ?_⟩) (by assumption) ?_
      rotate_left
      · (intro wz hSw; (try dsimp only at hSw); go_simp <;> with_reducible rfl)
      try simp only [Act.put, List.setIfInBounds_toArray, List.set_cons_zero, List.set_cons_succ]
      refine Rg.takeL (i := 16) (v := ?_) rfl (by kernel_rfl) (by kernel_rfl) (by kernel_rfl) (fun _ _ _ h => h) (Or.inl ⟨by rfl, ?_⟩) (by assumption) ?_
      rotate_left
      · (intro wz hSw; (try dsimp only at hSw); go_simp <;> with_reducible rfl)
      try simp only [Act.put, List.setIfInBounds_toArray, List.set_cons_zero, List.set_cons_succ]
      refine Rg.takeL (i := 17) (v := ?_) rfl (by kernel_rfl) (by kernel_rfl) (by kernel_rfl) (fun _ _ _ h => h) (Or.inl ⟨by rfl, ?_⟩) (by assumption) ?_
      rotate_left
      · (intro wz hSw; (try dsimp only at hSw); go_simp <;> with_reducible rfl)
      try simp only [Act.put, List.setIfInBounds_toArray, List.set_cons_zero, List.set_cons_succ]
      refine Rg.takeL (i := 18) (v := ?_) rfl (by kernel_rfl) (by kernel_rfl) (by kernel_rfl) (fun _ _ _ h => h) (Or.inl ⟨by rfl, ?_⟩) (by assumption) ?_
      rotate_left
      · (intro wz hSw; (try dsimp only at hSw); go_simp <;> with_reducible rfl)
      try simp only [Act.put, List.setIfInBounds_toArray, List.set_cons_zero, List.set_cons_succ]
      refine Rg.takeL (i := 19) (v := ?_) rfl (by kernel_rfl) (by kernel_rfl) (by kernel_rfl) (fun _ _ _ h => h) (Or.inl ⟨by rfl, ?_⟩) (by assumption) ?_
      rotate_left
      · (intro wz hSw; refine run_index_op _ _ 9 Tryd.underlying9 s (4 * k + 2) c (4 * (k : Int) + 2) ?_ (by omega) Q2.out wz; exact ⟨_, _, rfl, rfl, rfl⟩)
      try simp only [Act.put, List.setIfInBounds_toArray, List.set_cons_zero, List.set_cons_succ]
      refine Rg.takeL (i := 20) (v := ?_) rfl (by kernel_rfl) (by kernel_rfl) (by kernel_rfl) (fun _ _ _ h => h) (Or.inl ⟨by rfl, ?_⟩) (by assumption) ?_
      rotate_left
      · (intro wz hSw; (try dsimp only at hSw); go_simp <;> with_reducible rfl)
      try simp only [Act.put, List.setIfInBounds_toArray, List.set_cons_zero, List.set_cons_succ]
      refine Rg.takeL (i := 21) (v := ?_) rfl (by kernel_rfl) (by kernel_rfl) (by kernel_rfl) (fun _ _ _ h => h) (Or.inl ⟨by rfl, ?_⟩) (by assumption) ?_
      rotate_left
      · (intro wz hSw; (try dsimp only at hSw); go_simp <;> with_reducible rfl)
      try simp only [Act.put, List.setIfInBounds_toArray, List.set_cons_zero, List.set_cons_succ]
      refine Rg.takeL (i := 22) (v := ?_) rfl (by kernel_rfl) (by kernel_rfl) (by kernel_rfl) (fun _ _ _ h => h) (Or.inl ⟨by rfl, ?_⟩) (by assumption) ?_
      rotate_left
      · (intro wz hSw; (try dsimp only at hSw); go_simp <;> with_reducible rfl)
      try simp only [Act.put, List.setIfInBounds_toArray, List.set_cons_zero, List.set_cons_succ]
      refine Rg.takeL (i := 23) (v := ?_) rfl (by kernel_rfl) (by kernel_rfl) (by kernel_rfl) (fun _ _ _ h => h) (Or.inl ⟨by rfl, ?_⟩) (by assumption) ?_
      rotate_left
      · (intro wz hSw; (try dsimp only at hSw); go_simp <;> with_reducible rfl)
      try simp only [Act.put, List.setIfInBounds_toArray, List.set_cons_zero, List.set_cons_succ]
      refine Rg.takeL (i := 24) (v := ?_) rfl (by kernel_rfl) (by kernel_rfl) (by kernel_rfl) (fun _ _ _ h => h) (Or.inl ⟨by rfl, ?_⟩) (by assumption) ?_
      rotate_left
      · (intro wz hSw; (try dsimp only at hSw); go_simp <;> with_reducible rfl)
      try simp only [Act.put, List.setIfInBounds_toArray, List.set_cons_zero, List.set_cons_succ]
      refine Rg.takeL (i := 25) (v := ?_) rfl (by kernel_rfl) (by kernel_rfl) (by kernel_rfl) (fun _ _ _ h => h) (Or.inl ⟨by rfl, ?_⟩) (by assumption) ?_
      rotate_left
      · (intro wz hSw; (try dsimp only at hSw); go_simp <;> with_reducible rfl)
      try simp only [Act.put, List.setIfInBounds_toArray, List.set_cons_zero, List.set_cons_succ]
      refine Rg.takeL (i := 26) (v := ?_) rfl (by kernel_rfl) (by kernel_rfl) (by kernel_rfl) (fun _ _ _ h => h) (Or.inl ⟨by rfl, ?_⟩) (by assumption) ?_
      rotate_left
      · (intro wz hSw; (try dsimp only at hSw); go_simp <;> with_reducible rfl)
      try simp only [Act.put, List.setIfInBounds_toArray, List.set_cons_zero, List.set_cons_succ]
      refine Rg.takeL (i := 27) (v := ?_) rfl (by kernel_rfl) (by kernel_rfl) (by kernel_rfl) (fun _ _ _ h => h) (Or.inl ⟨by rfl, ?_⟩) (by assumption) ?_
      rotate_left
      · (intro wz hSw; refine run_index_op _ _ 9 Tryd.underlying9 s (4 * k + 3) d (4 * (k : Int) + 3) ?_ (by omega) Q3.out wz; exact ⟨_, _, rfl, rfl, rfl⟩)
      try simp only [Act.put, List.setIfInBounds_toArray, List.set_cons_zero, List.set_cons_succ]
      refine Rg.takeL (i := 28) (v := ?_) rfl (by kernel_rfl) (by kernel_rfl) (by kernel_rfl) (fun _ _ _ h => h) (Or.inl ⟨by rfl, ?_⟩) (by assumption) ?_
      rotate_left
      · (intro wz hSw; (try dsimp only at hSw); go_simp <;> with_reducible rfl)
      try simp only [Act.put, List.setIfInBounds_toArray, List.set_cons_zero, List.set_cons_succ]
      refine Rg.takeL (i := 29) (v := ?_) rfl (by kernel_rfl) (by kernel_rfl) (by kernel_rfl) (fun _ _ _ h => h) (Or.inl ⟨by rfl, ?_⟩) (by assumption) ?_
      rotate_left
      · (intro wz hSw; (try dsimp only at hSw); go_simp <;> with_reducible rfl)
      try simp only [Act.put, List.setIfInBounds_toArray, List.set_cons_zero, List.set_cons_succ]
      refine Rg.takeL (i := 30) (v := ?_) rfl (by kernel_rfl) (by kernel_rfl) (by kernel_rfl) (fun _ _ _ h => h) (Or.inl ⟨by rfl, ?_⟩) (by assumption) ?_
      rotate_left
      · (intro wz hSw; (try dsimp only at hSw); go_simp <;> with_reducible rfl)
      try simp only [Act.put, List.setIfInBounds_toArray, List.set_cons_zero, List.set_cons_succ]
      refine wpAnyH_ready (rs := [31]) (by kernel_rfl) (by simp) ?_
      refine Rg.readyL (i := 31) rfl (fun K hK => ?_)
      go_simp
      refine hK.out _ _ ?_ (fun hHeld => ?_)
      · trivial
      clear hK K
      try simp only [Act.put, List.setIfInBounds_toArray, List.set_cons_zero, List.set_cons_succ]
      refine wpAnyH_done (by kernel_rfl) ?_ _
      refine NoPanic.normal ?_
      go_wp2
      go_roundw
      case rel => exact ⟨k + 1, by omega, by go_num, by rw [O1.out, O2.out, O3.out]; exact HN, (hB.setCell (p := ⟨w.heap.size + 1, k, none⟩) (by simp) _).drew⟩
      case measure => simp [intOf]; omega
    · have hk16 : k = 16 := by omega
      rw [hk16] at HR
      clear hk16
      go_wp2
      go_loopw [5, 6, 7] (fun i _ _ wr => ∃ k : Nat, 16 ≤ k ∧ k ≤ 64 ∧ i = .int .i64 k ∧ Hid (Row wr (w.heap.size + 1) 87 64 (schW g k)) ∧ Below (w.heap.size + 1) (w.alloc (.cells (za 64) 87)) wr) (fun i _ _ _ => 64 - (intOf i).toNat)
      case atStart => exact ⟨16, by omega, by omega, rfl, HR, hB⟩
      case round =>
        clear HR hB hk hlt
        obtain ⟨k, h16, hk, rfl, HR, hB⟩ := hrel
        by_cases hlt : k < 64
        · obtain ⟨p, rfl⟩ : ∃ p, k = p + 16 := ⟨k - 16, by omega⟩
          obtain ⟨l, hl⟩ : ∃ l, schW g (p + 16) = l := ⟨_, rfl⟩
          have hll : l.length = p + 16 := by rw [← hl]; exact schW_length g _
          have hlb := fun j => getD_lt (l := l) (by rw [← hl]; exact schW_lt g HG.out _) j
          have hR := HR.out
          rw [hl] at hR
          have c0 := hR.cell (i := p) (by omega)
          have c1 := hR.cell (i := p + 1) (by omega)
          have c9 := hR.cell (i := p + 9) (by omega)
          have c14 := hR.cell (i := p + 14) (by omega)
          have cs := hR.cell (i := p + 16) (by omega)
          have hfr := hR.frozen (p + 16)
          have HN : Hid (Row (wr.setCell ⟨w.heap.size + 1, p + 16, none⟩ (.int .u32 ((l.getD p 0 + sg0 (l.getD (p + 1) 0) + l.getD (p + 9) 0 + sg1 (l.getD (p + 14) 0)) % 4294967296 : Nat))) (w.heap.size + 1) 87 64 (schW g (p + 16 + 1))) := Lib.hid (by
            have := Row.put hR ((l.getD p 0 + sg0 (l.getD (p + 1) 0) + l.getD (p + 9) 0 + sg1 (l.getD (p + 14) 0)) % 4294967296)
            rw [hll] at this
            rw [schW, hl, nextW, if_neg (by omega), show p + 16 - 16 = p by omega, show p + 16 - 15 = p + 1 by omega, show p + 16 - 7 = p + 9 by omega, show p + 16 - 2 = p + 14 by omega]
            exact this)
          have b0 := hlb p
          have b1 := hlb (p + 1)
          have b9 := hlb (p + 9)
          have b14 := hlb (p + 14)
          clear HR hl hll hlb hR
          obtain ⟨x0, hx0⟩ : ∃ x, l.getD p 0 = x := ⟨_, rfl⟩
          obtain ⟨x1, hx1⟩ : ∃ x, l.getD (p + 1) 0 = x := ⟨_, rfl⟩
          obtain ⟨x9, hx9⟩ : ∃ x, l.getD (p + 9) 0 = x := ⟨_, rfl⟩
          obtain ⟨x14, hx14⟩ : ∃ x, l.getD (p + 14) 0 = x := ⟨_, rfl⟩
          rw [hx0] at HN c0 b0
          rw [hx1] at HN c1 b1
          rw [hx9] at HN c9 b9
          rw [hx14] at HN c14 b14
          clear hx0 hx1 hx9 hx14
          have HT1 := Lib.hid (right_any x1 7 7 rfl b1 (by omega) (by omega))
          have HT2 := Lib.hid (right_any x1 18 18 rfl b1 (by omega) (by omega))
          have HT4 := Lib.hid (right_any x14 17 17 rfl b14 (by omega) (by omega))
          have HT5 := Lib.hid (right_any x14 19 19 rfl b14 (by omega) (by omega))
          have e1 := u32_xor_nat (turnN x1 7) (turnN x1 18) (turnN_lt 7 x1 b1) (turnN_lt 18 x1 b1)
          have e2 := u32_xor_nat (turnN x1 7 ^^^ turnN x1 18) (x1 / 8) (Nat.xor_lt_two_pow (n := 32) (turnN_lt 7 x1 b1) (turnN_lt 18 x1 b1)) (by omega)
          have e4 := u32_xor_nat (turnN x14 17) (turnN x14 19) (turnN_lt 17 x14 b14) (turnN_lt 19 x14 b14)
          have e5 := u32_xor_nat (turnN x14 17 ^^^ turnN x14 19) (x14 / 1024) (Nat.xor_lt_two_pow (n := 32) (turnN_lt 17 x14 b14) (turnN_lt 19 x14 b14)) (by omega)
          have q1 : turnN x1 7 ^^^ turnN x1 18 ^^^ (x1 / 8) = sg0 x1 := by unfold sg0; rw [shiftN_eq]
          have q2 : turnN x14 17 ^^^ turnN x14 19 ^^^ (x14 / 1024) = sg1 x14 := by unfold sg1; rw [shiftN_eq]
          rw [q1] at e2
          rw [q2] at e5
          have s0b := sg0_lt x1 b1
          have s1b := sg1_lt x14 b14
          obtain ⟨z0, hz0⟩ : ∃ y, sg0 x1 = y := ⟨_, rfl⟩
          obtain ⟨z1, hz1⟩ : ∃ y, sg1 x14 = y := ⟨_, rfl⟩
          rw [hz0] at HN e2 s0b
          rw [hz1] at HN e5 s1b
          clear hz0 hz1 q1 q2
          generalize turnN x1 7 ^^^ turnN x1 18 = y1 at e1 e2
          generalize turnN x14 17 ^^^ turnN x14 19 = y4 at e4 e5
          generalize turnN x1 7 = a1 at HT1 e1
          generalize turnN x1 18 = a2 at HT2 e1
          generalize turnN x14 17 = a4 at HT4 e4
          generalize turnN x14 19 = a5 at HT5 e4
          have E1 := sec e1
          have E2 := sec e2
          have E4 := sec e4
          have E5 := sec e5
          clear e1 e2 e4 e5
          have l0 : (0 : Int) ≤ (p : Int) + 1 := by omega
          have l1 : (p : Int) + 1 < 64 := by omega
          have l2 : (0 : Int) ≤ (p : Int) + 14 := by omega
          have l3 : (p : Int) + 14 < 64 := by omega
          have l4 : ((p : Int) + 14).toNat = p + 14 := by omega
          have l5 : ((p : Int) + 1).toNat = p + 1 := by omega
          have w1 : IntKind.i64.wrap ((p : Int) + 16 - 15) = (p : Int) + 1 := by rw [IntKind.wrap_i64]; omega
          have w14 : IntKind.i64.wrap ((p : Int) + 16 - 2) = (p : Int) + 14 := by rw [IntKind.wrap_i64]; omega
          go_wp2_with fail
          go_quiet (fail)
          obtain ⟨n1, rfl⟩ : ∃ n, n = nq := ⟨_, rfl⟩
          clear l0 l1 l2 l3 l4 l5 w1 w14 c1 c14
          have e1 := E1.out
          have e2 := E2.out
          have e4 := E4.out
          have e5 := E5.out
          rw [show ((x1 / 8 : Nat) : Int) = (x1 : Int) / 8 by omega] at e2
          rw [show ((x14 / 1024 : Nat) : Int) = (x14 : Int) / 1024 by omega] at e5
          clear E1 E2 E4 E5
          go_wp2_with fail
          (with_reducible refine (HT1.out _).mono ?_)
          rintro e w3 ⟨rfl, rfl⟩
          go_wp2_with fail
          (with_reducible refine (HT2.out _).mono ?_)
          rintro e w3 ⟨rfl, rfl⟩
          go_wp2_with fail
          (with_reducible refine (HT4.out _).mono ?_)
          rintro e w3 ⟨rfl, rfl⟩
          go_wp2_with fail
          (with_reducible refine (HT5.out _).mono ?_)
          rintro e w3 ⟨rfl, rfl⟩
          go_wp2_with fail
          clear HT1 HT2 HT4 HT5 e1 e2 e4 e5
          have l0 : (0 : Int) ≤ (p : Int) := by omega
          have l1 : (p : Int) < 64 := by omega
          have l2 : (0 : Int) ≤ (p : Int) + 9 := by omega
          have l3 : (p : Int) + 9 < 64 := by omega
          have l4 : ((p : Int) + 9).toNat = p + 9 := by omega
          have w1 : IntKind.i64.wrap (p : Int) = (p : Int) := by rw [IntKind.wrap_i64]; omega
          have w9 : IntKind.i64.wrap ((p : Int) + 16 - 7) = (p : Int) + 9 := by rw [IntKind.wrap_i64]; omega
          have l6 : (0 : Int) ≤ (p : Int) + 16 := by omega
          have l7 : (p : Int) + 16 < 64 := by omega
          have l8 : ((p : Int) + 16).toNat = p + 16 := by omega
          have HV : Sec (((((x0 : Int) + z0) % 4294967296 + x9) % 4294967296 + z1) % 4294967296 = ((x0 + z0 + x9 + z1) % 4294967296 : Nat)) := sec (by omega)
          refine wp_region_noPanic ?_
          refine wp_region_held_drew (S := fun w' => w'.cell? ⟨w.heap.size + 1, p, none⟩ = some (.int .u32 (x0 : Nat)) ∧ w'.cell? ⟨w.heap.size + 1, p + 9, none⟩ = some (.int .u32 (x9 : Nat))) (by kernel_rfl) (⟨c0, c9⟩) (fun hHeld => ?_)
          refine Rg.takeL (i := 0) (v := ?_) rfl (by kernel_rfl) (by kernel_rfl) (by kernel_rfl) (fun _ _ _ h => h) (Or.inl ⟨by rfl, ?_⟩) (by assumption) ?_
          rotate_left
          · (intro wz hSw; (try dsimp only at hSw); go_simp <;> with_reducible rfl)
          try simp only [Act.put, List.setIfInBounds_toArray, List.set_cons_zero, List.set_cons_succ]
          refine Rg.takeL (i := 1) (v := ?_) rfl (by kernel_rfl) (by kernel_rfl) (by kernel_rfl) (fun _ _ _ h => h) (Or.inl ⟨by rfl, ?_⟩) (by assumption) ?_
          rotate_left
          · (intro wz hSw; (try dsimp only at hSw); go_simp <;> with_reducible rfl)
          try simp only [Act.put, List.setIfInBounds_toArray, List.set_cons_zero, List.set_cons_succ]
          refine Rg.takeL (i := 2) (v := ?_) rfl (by kernel_rfl) (by kernel_rfl) (by kernel_rfl) (fun _ _ _ h => h) (Or.inl ⟨by rfl, ?_⟩) (by assumption) ?_
          rotate_left
          · (intro wz hSw; (try dsimp only at hSw); go_simp <;> with_reducible rfl)
          try simp only [Act.put, List.setIfInBounds_toArray, List.set_cons_zero, List.set_cons_succ]
          refine Rg.takeL (i := 3) (v := ?_) rfl (by kernel_rfl) (by kernel_rfl) (by kernel_rfl) (fun _ _ _ h => h) (Or.inl ⟨by rfl, ?_⟩) (by assumption) ?_
          rotate_left
          · (intro wz hSw; (try dsimp only at hSw); go_simp <;> with_reducible rfl)
          try simp only [Act.put, List.setIfInBounds_toArray, List.set_cons_zero, List.set_cons_succ]
          refine Rg.takeL (i := 4) (v := ?_) rfl (by kernel_rfl) (by kernel_rfl) (by kernel_rfl) (fun _ _ _ h => h) (Or.inl ⟨by rfl, ?_⟩) (by assumption) ?_
          rotate_left
          · (intro wz hSw; (try dsimp only at hSw); go_simp <;> with_reducible rfl)
          try simp only [Act.put, List.setIfInBounds_toArray, List.set_cons_zero, List.set_cons_succ]
          refine Rg.takeL (i := 5) (v := ?_) rfl (by kernel_rfl) (by kernel_rfl) (by kernel_rfl) (fun _ _ _ h => h) (Or.inl ⟨by rfl, ?_⟩) (by assumption) ?_
          rotate_left
          · (intro wz hSw; (try dsimp only at hSw); go_simp <;> with_reducible rfl)
          try simp only [Act.put, List.setIfInBounds_toArray, List.set_cons_zero, List.set_cons_succ]
          refine Rg.takeL (i := 6) (v := ?_) rfl (by kernel_rfl) (by kernel_rfl) (by kernel_rfl) (fun _ _ _ h => h) (Or.inl ⟨by rfl, ?_⟩) (by assumption) ?_
          rotate_left
          · (intro wz hSw; (try dsimp only at hSw); go_simp <;> with_reducible rfl)
          try simp only [Act.put, List.setIfInBounds_toArray, List.set_cons_zero, List.set_cons_succ]
          refine Rg.takeL (i := 7) (v := ?_) rfl (by kernel_rfl) (by kernel_rfl) (by kernel_rfl) (fun _ _ _ h => h) (Or.inl ⟨by rfl, ?_⟩) (by assumption) ?_
          rotate_left
          · (intro wz hSw; (try dsimp only at hSw); go_simp <;> with_reducible rfl)
          try simp only [Act.put, List.setIfInBounds_toArray, List.set_cons_zero, List.set_cons_succ]
          refine Rg.takeL (i := 8) (v := ?_) rfl (by kernel_rfl) (by kernel_rfl) (by kernel_rfl) (fun _ _ _ h => h) (Or.inl ⟨by rfl, ?_⟩) (by assumption) ?_
          rotate_left
          · (intro wz hSw; (try dsimp only at hSw); go_simp <;> with_reducible rfl)
          try simp only [Act.put, List.setIfInBounds_toArray, List.set_cons_zero, List.set_cons_succ]
          refine Rg.takeL (i := 9) (v := ?_) rfl (by kernel_rfl) (by kernel_rfl) (by kernel_rfl) (fun _ _ _ h => h) (Or.inl ⟨by rfl, ?_⟩) (by assumption) ?_
          rotate_left
          · (intro wz hSw; (try dsimp only at hSw); go_simp <;> with_reducible rfl)
          try simp only [Act.put, List.setIfInBounds_toArray, List.set_cons_zero, List.set_cons_succ]
          refine Rg.takeL (i := 10) (v := ?_) rfl (by kernel_rfl) (by kernel_rfl) (by kernel_rfl) (fun _ _ _ h => h) (Or.inl ⟨by rfl, ?_⟩) (by assumption) ?_
          rotate_left
          · (intro wz hSw; (try dsimp only at hSw); go_simp <;> with_reducible rfl)
          try simp only [Act.put, List.setIfInBounds_toArray, List.set_cons_zero, List.set_cons_succ]
          refine Rg.takeL (i := 11) (v := ?_) rfl (by kernel_rfl) (by kernel_rfl) (by kernel_rfl) (fun _ _ _ h => h) (Or.inl ⟨by rfl, ?_⟩) (by assumption) ?_
          rotate_left
          · (intro wz hSw; (try dsimp only at hSw); go_simp <;> with_reducible rfl)
          try simp only [Act.put, List.setIfInBounds_toArray, List.set_cons_zero, List.set_cons_succ]
          refine Rg.takeL (i := 12) (v := ?_) rfl (by kernel_rfl) (by kernel_rfl) (by kernel_rfl) (fun _ _ _ h => h) (Or.inl ⟨by rfl, ?_⟩) (by assumption) ?_
          rotate_left
          · (intro wz hSw; (try dsimp only at hSw); go_simp <;> with_reducible rfl)
          try simp only [Act.put, List.setIfInBounds_toArray, List.set_cons_zero, List.set_cons_succ]
          refine Rg.takeL (i := 13) (v := ?_) rfl (by kernel_rfl) (by kernel_rfl) (by kernel_rfl) (fun _ _ _ h => h) (Or.inl ⟨by rfl, ?_⟩) (by assumption) ?_
          rotate_left
          · (intro wz hSw; (try dsimp only at hSw); go_simp <;> with_reducible rfl)
          try simp only [Act.put, List.setIfInBounds_toArray, List.set_cons_zero, List.set_cons_succ]
          refine Rg.takeL (i := 14) (v := ?_) rfl (by kernel_rfl) (by kernel_rfl) (by kernel_rfl) (fun _ _ _ h => h) (Or.inl ⟨by rfl, ?_⟩) (by assumption) ?_
          rotate_left
          · (intro wz hSw; (try dsimp only at hSw); go_simp <;> with_reducible rfl)
          try simp only [Act.put, List.setIfInBounds_toArray, List.set_cons_zero, List.set_cons_succ]
          refine wpAnyH_ready (rs := [15]) (by kernel_rfl) (by simp) ?_
          refine Rg.readyL (i := 15) rfl (fun K hK => ?_)
          go_simp
          refine hK.out _ _ ?_ (fun hHeld => ?_)
          · exact ⟨by rw [World.cell?_setCell_other _ _ _ _ (by simp; try omega)]; exact c0, by rw [World.cell?_setCell_other _ _ _ _ (by simp; try omega)]; exact c9⟩
          clear hK K
          try simp only [Act.put, List.setIfInBounds_toArray, List.set_cons_zero, List.set_cons_succ]
          refine wpAnyH_done (by kernel_rfl) ?_ _
          refine NoPanic.normal ?_
          clear l0 l1 l2 l3 l4 l6 l7 l8 w1 w9 hHeld
          go_wp2
          go_roundw
          case rel => exact ⟨p + 16 + 1, by omega, by omega, by go_num, Lib.hid (by rw [HV.out]; exact HN.out), (below_drewN hB (n1 + 1)).setCell (p := ⟨w.heap.size + 1, p + 16, none⟩) (by simp) _⟩
          case measure => simp [intOf]; omega
        · obtain rfl : k = 64 := by omega
          have HG2 := Lib.hid (ac_of (schW g 64) HR.out (schW_length g 64) (fun _ _ => rfl))
          have HB0 : Hid (wr.heap[w.heap.size]? = some (.cells (za 64) 87 (0, 0))) := Lib.hid (by rw [hB.block _ (by simp)]; exact heap_alloc_new _ _)
          obtain ⟨l, hl⟩ : ∃ l, schW g 64 = l := ⟨_, rfl⟩
          have hll : l.length = 64 := by rw [← hl]; exact schW_length g _
          rw [hl] at HG2
          have HLs := sec hl
          clear HR hl
          go_wp2_with (first | (refine wpList_load_row rfl _ _ rfl (w.heap.size + 1) rfl 87 (ac l) (0, 0) _ HG2.out Tryd.underlying87 rfl (by rw [ac_size, hll]; exact info_64) ?_) | (refine wpList_store_rowTo rfl 87 _ _ rfl rfl _ (ac l) rfl rfl 87 (za 64) HB0.out (by rw [ac_size, hll]; exact info_64) (by rw [ac_size, hll, za, ac_size]; simp) (ac_one _) ?_))
          exact bodyPost_ret (results_cell_row rfl _ _ w.heap.size 87 (ac l) (0, 0) _ rfl (setRow_heap _ _ _ _ _ _ HB0.out) Tryd.underlying87 rfl (by rw [ac_size, hll]; exact info_64)) rfl ⟨by rw [HLs.out], below_row (((Below.refl w.heap.size w).alloc (Nat.le_refl _) _).trans (hB.mono (by simp))) (Nat.le_refl _) _⟩
end Sm
end Go.Proofs.YtlembfhdljmcoaaDoor

/-
  Contracts of sum.turner and of what it makes.
-/
namespace Go.Proofs.YtlembfhdljmcoaaDoor
set_option maxRecDepth 20000
open Go.RowKit

namespace Sm
open Sh
theorem not_sub (e : Nat) (he : e < 4294967296) : 4294967295 ^^^ e = 4294967295 - e := by
  apply Nat.eq_of_testBit_eq
  intro i
  have h := Nat.testBit_two_pow_sub_succ (n := 32) (x := e) he i
  rw [show 2 ^ 32 - (e + 1) = 4294967295 - e by omega] at h
  have h1 := Nat.testBit_two_pow_sub_one (n := 32) (i := i)
  rw [show 2 ^ 32 - 1 = 4294967295 by rfl] at h1
  rw [Nat.testBit_xor, h, h1]
  by_cases hi : i < 32
  · simp [hi]
  · have : e.testBit i = false := Nat.testBit_lt_two_pow (Nat.lt_of_lt_of_le he (Nat.pow_le_pow_right (n := 2) (by omega) (show 32 ≤ i by omega)))
    simp [hi, this]
theorem pick_xor (e f g : Nat) (he : e < 4294967296) : (e &&& f) ^^^ ((4294967295 - e) &&& g) = pickN e f g := by
  unfold pickN
  rw [← not_sub e he]
  apply Nat.eq_of_testBit_eq
  intro i
  have h1 := Nat.testBit_two_pow_sub_one (n := 32) (i := i)
  rw [show 2 ^ 32 - 1 = 4294967295 by rfl] at h1
  simp only [Nat.testBit_xor, Nat.testBit_and, Nat.testBit_or, h1]
  by_cases hi : i < 32
  · simp only [hi, decide_true]
    cases e.testBit i <;> cases f.testBit i <;> cases g.testBit i <;> rfl
  · have : e.testBit i = false := Nat.testBit_lt_two_pow (Nat.lt_of_lt_of_le he (Nat.pow_le_pow_right (n := 2) (by omega) (show 32 ≤ i by omega)))
    simp [hi, this]
theorem most_xor (a b c : Nat) : (a &&& b) ^^^ (a &&& c) ^^^ (b &&& c) = mostN a b c := by
  unfold mostN
  apply Nat.eq_of_testBit_eq
  intro i
  simp only [Nat.testBit_xor, Nat.testBit_and, Nat.testBit_or]
  cases a.testBit i <;> cases b.testBit i <;> cases c.testBit i <;> rfl

theorem ac_set8 (x0 x1 x2 x3 x4 x5 x6 x7 v0 v1 v2 v3 v4 v5 v6 v7 : Nat) :
    ((((((((ac [x0, x1, x2, x3, x4, x5, x6, x7]).setIfInBounds 0 (.int .u32 v0)).setIfInBounds 1 (.int .u32 v1)).setIfInBounds 2 (.int .u32 v2)).setIfInBounds 3 (.int .u32 v3)).setIfInBounds 4 (.int .u32 v4)).setIfInBounds 5 (.int .u32 v5)).setIfInBounds 6 (.int .u32 v6)).setIfInBounds 7 (.int .u32 v7)
      = ac [v0, v1, v2, v3, v4, v5, v6, v7] := by
  simp [ac]
theorem drewg {w w1 : World} {r : Option Nat} (h : w.grownBy w1 r) : w.grownBy w1.drew r := ⟨h.os, h.tape, h.output, h.size, h.block⟩
theorem setg {w w1 : World} {g : Nat} {j : Nat} (v : Value) (h : w.grownBy w1 (some g)) : w.grownBy (w1.setCell ⟨g, j, none⟩ v) (some g) :=
  ⟨h.os, h.tape, h.output, by have := h.size; simp; omega, fun k hk hne => (heap_setCell_other _ _ _ _ (by simpa using hne)).trans (h.block k hk hne)⟩
theorem turner_any (n x : Nat) (w : World) :
    Calls Tryd.prog 46 #[.int .u32 n, .int .u32 x] w fun e w' => e = .returned (.func (Fn.func 52) #[] #[.pointer (some ⟨w.heap.size, 0, none⟩), .pointer (some ⟨w.heap.size + 1, 0, none⟩)]) ∧ w' = (w.alloc (.cells #[.int .u32 n] 76)).alloc (.cells #[.int .u32 x] 76) := by
  go_enter Tryd.func46, Tryd.ntmps46
  go_wp2
  go_ret
  exact ⟨rfl, rfl⟩

set_option maxRecDepth 100000 in
set_option maxHeartbeats 8000000 in
theorem round_any (g bn bw kk wk x0 x1 x2 x3 x4 x5 x6 x7 : Nat) (b0 : x0 < 4294967296) (b1 : x1 < 4294967296) (b2 : x2 < 4294967296) (b4 : x4 < 4294967296) (b5 : x5 < 4294967296) (b6 : x6 < 4294967296)
    (w : World) (hg : w.heap[g]? = some (.cells (ac [x0, x1, x2, x3, x4, x5, x6, x7]) 77 (0, 0))) (hn : w.cell? ⟨bn, 0, none⟩ = some (.int .u32 kk)) (hw : w.cell? ⟨bw, 0, none⟩ = some (.int .u32 wk)) :
    Calls Tryd.prog 52 #[.pointer (some ⟨g, 0, none⟩), .pointer (some ⟨bn, 0, none⟩), .pointer (some ⟨bw, 0, none⟩)] w fun e w' => e = .returned (.tuple #[]) ∧ w'.heap[g]? = some (.cells (ac (roundL kk wk [x0, x1, x2, x3, x4, x5, x6, x7])) 77 (0, 0)) ∧ w.grownBy w' (some g) := by
  have c0 : w.cell? ⟨g, 0, none⟩ = some (.int .u32 x0) := cell_of_row w g 0 _ _ _ hg
  have c1 : w.cell? ⟨g, 1, none⟩ = some (.int .u32 x1) := cell_of_row w g 1 _ _ _ hg
  have c2 : w.cell? ⟨g, 2, none⟩ = some (.int .u32 x2) := cell_of_row w g 2 _ _ _ hg
  have c3 : w.cell? ⟨g, 3, none⟩ = some (.int .u32 x3) := cell_of_row w g 3 _ _ _ hg
  have c4 : w.cell? ⟨g, 4, none⟩ = some (.int .u32 x4) := cell_of_row w g 4 _ _ _ hg
  have c5 : w.cell? ⟨g, 5, none⟩ = some (.int .u32 x5) := cell_of_row w g 5 _ _ _ hg
  have c6 : w.cell? ⟨g, 6, none⟩ = some (.int .u32 x6) := cell_of_row w g 6 _ _ _ hg
  have c7 : w.cell? ⟨g, 7, none⟩ = some (.int .u32 x7) := cell_of_row w g 7 _ _ _ hg
  have fz : ∀ j, w.frozen? ⟨g, j, none⟩ = false := fun j => frozen_of_row w g j _ _ hg
  have HG := sec hg
  have HFZ := sec fz
  clear hg fz
  go_enter Tryd.func52, Tryd.ntmps52
  go_wp2_with fail
  go_quiet (fail)
  obtain ⟨n1, rfl⟩ : ∃ n, n = nq := ⟨_, rfl⟩
  go_wp2_with fail
  go_quiet (fail)
  obtain ⟨n2, rfl⟩ : ∃ n, n = nq := ⟨_, rfl⟩
  have hpk := pickN_lt x4 x5 x6 b4
  have A1 := u32_and_nat x4 x5 b4 b5
  have A2 := u32_xor_nat 4294967295 x4 (by omega) b4
  rw [not_sub x4 b4] at A2
  have A3 := u32_and_nat (4294967295 - x4) x6 (by omega) b6
  have A4 := u32_xor_nat (x4 &&& x5) ((4294967295 - x4) &&& x6) (Nat.lt_of_le_of_lt Nat.and_le_left b4) (Nat.lt_of_le_of_lt Nat.and_le_left (by omega))
  rw [pick_xor x4 x5 x6 b4] at A4
  have A2 : bits .xor .u32 IntKind.u32.max (x4 : Int) = ((4294967295 - x4 : Nat) : Int) := A2
  obtain ⟨pk, hpke⟩ : ∃ p, pickN x4 x5 x6 = p := ⟨_, rfl⟩
  rw [hpke] at hpk A4
  have HPK := sec hpke
  clear hpke
  obtain ⟨m4, hm4⟩ : ∃ p, 4294967295 - x4 = p := ⟨_, rfl⟩
  rw [hm4] at A2 A3 A4
  clear hm4
  generalize x4 &&& x5 = p1 at A1 A4
  generalize m4 &&& x6 = p2 at A3 A4
  go_wp2_with fail
  clear A1 A2 A3 A4
  have HT1 := Lib.hid (right_any x4 6 6 rfl b4 (by omega) (by omega))
  have HT2 := Lib.hid (right_any x4 11 11 rfl b4 (by omega) (by omega))
  have HT3 := Lib.hid (right_any x4 25 25 rfl b4 (by omega) (by omega))
  have e1 := u32_xor_nat (turnN x4 6) (turnN x4 11) (turnN_lt 6 x4 b4) (turnN_lt 11 x4 b4)
  have e2 := u32_xor_nat (turnN x4 6 ^^^ turnN x4 11) (turnN x4 25) (Nat.xor_lt_two_pow (n := 32) (turnN_lt 6 x4 b4) (turnN_lt 11 x4 b4)) (turnN_lt 25 x4 b4)
  have hq : turnN x4 6 ^^^ turnN x4 11 ^^^ turnN x4 25 = bs1 x4 := rfl
  rw [hq] at e2
  have tB1 := bs1_lt x4 b4
  obtain ⟨B1, hB1⟩ : ∃ y, bs1 x4 = y := ⟨_, rfl⟩
  rw [hB1] at e2 tB1
  have HB1 := sec hB1
  clear hB1 hq
  generalize turnN x4 6 ^^^ turnN x4 11 = y1 at e1 e2
  generalize turnN x4 6 = a1 at HT1 e1
  generalize turnN x4 11 = a2 at HT2 e1
  generalize turnN x4 25 = a3 at HT3 e2
  have HX : Sec ((x7 + B1 + pk + kk + wk) % 4294967296 = ((((x7 + B1) % 4294967296 + pk) % 4294967296 + kk) % 4294967296 + wk) % 4294967296) := sec (by omega)
  have v1 : IntKind.u32.wrap ((x7 : Int) + B1) = ((x7 + B1) % 4294967296 : Nat) := by rw [IntKind.wrap_u32']; omega
  have v2 : IntKind.u32.wrap ((((x7 + B1) % 4294967296 : Nat) : Int) + pk) = (((x7 + B1) % 4294967296 + pk) % 4294967296 : Nat) := by rw [IntKind.wrap_u32']; omega
  have v3 : IntKind.u32.wrap (((((x7 + B1) % 4294967296 + pk) % 4294967296 : Nat) : Int) + kk) = ((((x7 + B1) % 4294967296 + pk) % 4294967296 + kk) % 4294967296 : Nat) := by rw [IntKind.wrap_u32']; omega
  have v4 : IntKind.u32.wrap ((((((x7 + B1) % 4294967296 + pk) % 4294967296 + kk) % 4294967296 : Nat) : Int) + wk) = (((((x7 + B1) % 4294967296 + pk) % 4294967296 + kk) % 4294967296 + wk) % 4294967296 : Nat) := by rw [IntKind.wrap_u32']; omega
  obtain ⟨s1, h1⟩ : ∃ s, (x7 + B1) % 4294967296 = s := ⟨_, rfl⟩
  rw [h1] at v1 v2 v3 v4 HX
  obtain ⟨s2, h2⟩ : ∃ s, (s1 + pk) % 4294967296 = s := ⟨_, rfl⟩
  rw [h2] at v2 v3 v4 HX
  obtain ⟨s3, h3⟩ : ∃ s, (s2 + kk) % 4294967296 = s := ⟨_, rfl⟩
  rw [h3] at v3 v4 HX
  have hXb : (s3 + wk) % 4294967296 < 4294967296 := Nat.mod_lt _ (by omega)
  obtain ⟨X, hX⟩ : ∃ s, (s3 + wk) % 4294967296 = s := ⟨_, rfl⟩
  rw [hX] at v4 HX hXb
  clear h1 h2 h3 hX
  refine wp_region_noPanic ?_
  refine wp_region_held_drew (S := fun w' => w'.cell? ⟨bn, 0, none⟩ = some (.int .u32 (kk : Nat)) ∧ w'.cell? ⟨bw, 0, none⟩ = some (.int .u32 (wk : Nat))) (by kernel_rfl) (⟨hn, hw⟩) (fun hHeld => ?_)
  refine Rg.takeL (i := 0) (v := ?_) rfl (by kernel_rfl) (by kernel_rfl) (by kernel_rfl) (fun _ _ _ h => h) (Or.inl ⟨by rfl, ?_⟩) (by assumption) ?_
  rotate_left
  · (intro wz hSw; (try dsimp only at hSw); go_simp <;> with_reducible rfl)
  try simp only [Act.put, List.setIfInBounds_toArray, List.set_cons_zero, List.set_cons_succ]
  refine Rg.takeL (i := 1) (v := ?_) rfl (by kernel_rfl) (by kernel_rfl) (by kernel_rfl) (fun _ _ _ h => h) (Or.inl ⟨by rfl, ?_⟩) (by assumption) ?_
  rotate_left
  · (intro wz hSw; (try dsimp only at hSw); go_simp <;> with_reducible rfl)
  try simp only [Act.put, List.setIfInBounds_toArray, List.set_cons_zero, List.set_cons_succ]
  refine Rg.takeL (i := 3) (v := ?_) rfl (by kernel_rfl) (by kernel_rfl) (by kernel_rfl) (fun _ _ _ h => h) (Or.inl ⟨by rfl, ?_⟩) (by assumption) ?_
  rotate_left
  · (intro wz hSw; (try dsimp only at hSw); go_simp <;> with_reducible rfl)
  try simp only [Act.put, List.setIfInBounds_toArray, List.set_cons_zero, List.set_cons_succ]
  refine Rg.takeL (i := 6) (v := ?_) rfl (by kernel_rfl) (by kernel_rfl) (by kernel_rfl) (fun _ _ _ h => h) (Or.inl ⟨by rfl, ?_⟩) (by assumption) ?_
  rotate_left
  · (intro wz hSw; (try dsimp only at hSw); go_simp <;> with_reducible rfl)
  try simp only [Act.put, List.setIfInBounds_toArray, List.set_cons_zero, List.set_cons_succ]
  refine Rg.takeL (i := 10) (v := ?_) rfl (by kernel_rfl) (by kernel_rfl) (by kernel_rfl) (fun _ _ _ h => h) (Or.inl ⟨by rfl, ?_⟩) (by assumption) ?_
  rotate_left
  · (intro wz hSw; (try dsimp only at hSw); go_simp <;> with_reducible rfl)
  try simp only [Act.put, List.setIfInBounds_toArray, List.set_cons_zero, List.set_cons_succ]
  refine Rg.takeL (i := 12) (v := ?_) rfl (by kernel_rfl) (by kernel_rfl) (by kernel_rfl) (fun _ _ _ h => h) (Or.inl ⟨by rfl, ?_⟩) (by assumption) ?_
  rotate_left
  · (intro wz hSw; (try dsimp only at hSw); go_simp <;> with_reducible rfl)
  try simp only [Act.put, List.setIfInBounds_toArray, List.set_cons_zero, List.set_cons_succ]
  refine Rg.takeL (i := 14) (v := ?_) rfl (by kernel_rfl) (by kernel_rfl) (by kernel_rfl) (fun _ _ _ h => h) (Or.inl ⟨by rfl, ?_⟩) (by assumption) ?_
  rotate_left
  · (intro wz hSw; (try dsimp only at hSw); go_simp <;> with_reducible rfl)
  try simp only [Act.put, List.setIfInBounds_toArray, List.set_cons_zero, List.set_cons_succ]
  refine wpAnyH_ready (rs := [2]) (by kernel_rfl) (by simp) ?_
  refine Rg.readyL (i := 2) rfl (fun K hK => ?_)
  go_simp
  go_at_call 51
  (with_reducible refine (HT1.out _).mono ?_)
  rintro e w3 ⟨rfl, rfl⟩
  refine hK.out _ _ ?_ (fun hHeld => ?_)
  · assumption
  clear hK K
  try simp only [Act.put, List.setIfInBounds_toArray, List.set_cons_zero, List.set_cons_succ]
  refine wpAnyH_ready (rs := [4]) (by kernel_rfl) (by simp) ?_
  refine Rg.readyL (i := 4) rfl (fun K hK => ?_)
  go_simp
  go_at_call 51
  (with_reducible refine (HT2.out _).mono ?_)
  rintro e w3 ⟨rfl, rfl⟩
  refine hK.out _ _ ?_ (fun hHeld => ?_)
  · assumption
  clear hK K
  try simp only [Act.put, List.setIfInBounds_toArray, List.set_cons_zero, List.set_cons_succ]
  refine Rg.takeL (i := 5) (v := ?_) rfl (by kernel_rfl) (by kernel_rfl) (by kernel_rfl) (fun _ _ _ h => h) (Or.inl ⟨by rfl, ?_⟩) (by assumption) ?_
  rotate_left
  · (intro wz hSw; (try dsimp only at hSw); go_simp <;> with_reducible rfl)
  try simp only [Act.put, List.setIfInBounds_toArray, List.set_cons_zero, List.set_cons_succ]
  refine wpAnyH_ready (rs := [7]) (by kernel_rfl) (by simp) ?_
  refine Rg.readyL (i := 7) rfl (fun K hK => ?_)
  go_simp
  go_at_call 51
  (with_reducible refine (HT3.out _).mono ?_)
  rintro e w3 ⟨rfl, rfl⟩
  refine hK.out _ _ ?_ (fun hHeld => ?_)
  · assumption
  clear hK K
  try simp only [Act.put, List.setIfInBounds_toArray, List.set_cons_zero, List.set_cons_succ]
  refine Rg.takeL (i := 8) (v := ?_) rfl (by kernel_rfl) (by kernel_rfl) (by kernel_rfl) (fun _ _ _ h => h) (Or.inl ⟨by rfl, ?_⟩) (by assumption) ?_
  rotate_left
  · (intro wz hSw; (try dsimp only at hSw); go_simp <;> with_reducible rfl)
  try simp only [Act.put, List.setIfInBounds_toArray, List.set_cons_zero, List.set_cons_succ]
  refine Rg.takeL (i := 9) (v := ?_) rfl (by kernel_rfl) (by kernel_rfl) (by kernel_rfl) (fun _ _ _ h => h) (Or.inl ⟨by rfl, ?_⟩) (by assumption) ?_
  rotate_left
  · (intro wz hSw; (try dsimp only at hSw); go_simp <;> with_reducible rfl)
  try simp only [Act.put, List.setIfInBounds_toArray, List.set_cons_zero, List.set_cons_succ]
  refine Rg.takeL (i := 11) (v := ?_) rfl (by kernel_rfl) (by kernel_rfl) (by kernel_rfl) (fun _ _ _ h => h) (Or.inl ⟨by rfl, ?_⟩) (by assumption) ?_
  rotate_left
  · (intro wz hSw; (try dsimp only at hSw); go_simp <;> with_reducible rfl)
  try simp only [Act.put, List.setIfInBounds_toArray, List.set_cons_zero, List.set_cons_succ]
  refine Rg.takeL (i := 13) (v := ?_) rfl (by kernel_rfl) (by kernel_rfl) (by kernel_rfl) (fun _ _ _ h => h) (Or.inl ⟨by rfl, ?_⟩) (by assumption) ?_
  rotate_left
  · (intro wz hSw; (try dsimp only at hSw); go_simp <;> with_reducible rfl)
  try simp only [Act.put, List.setIfInBounds_toArray, List.set_cons_zero, List.set_cons_succ]
  refine Rg.takeL (i := 15) (v := ?_) rfl (by kernel_rfl) (by kernel_rfl) (by kernel_rfl) (fun _ _ _ h => h) (Or.inl ⟨by rfl, ?_⟩) (by assumption) ?_
  rotate_left
  · (intro wz hSw; (try dsimp only at hSw); go_simp <;> with_reducible rfl)
  try simp only [Act.put, List.setIfInBounds_toArray, List.set_cons_zero, List.set_cons_succ]
  refine Rg.takeL (i := 16) (v := ?_) rfl (by kernel_rfl) (by kernel_rfl) (by kernel_rfl) (fun _ _ _ h => h) (Or.inl ⟨by rfl, ?_⟩) (by assumption) ?_
  rotate_left
  · (intro wz hSw; (try dsimp only at hSw); go_simp <;> with_reducible rfl)
  try simp only [Act.put, List.setIfInBounds_toArray, List.set_cons_zero, List.set_cons_succ]
  refine wpAnyH_done (by kernel_rfl) ?_ _
  refine NoPanic.normal ?_
  clear HT1 HT2 HT3 e1 e2 v1 v2 v3 v4 hHeld
  have HT1 := Lib.hid (right_any x0 2 2 rfl b0 (by omega) (by omega))
  have HT2 := Lib.hid (right_any x0 13 13 rfl b0 (by omega) (by omega))
  have HT3 := Lib.hid (right_any x0 22 22 rfl b0 (by omega) (by omega))
  have e1 := u32_xor_nat (turnN x0 2) (turnN x0 13) (turnN_lt 2 x0 b0) (turnN_lt 13 x0 b0)
  have e2 := u32_xor_nat (turnN x0 2 ^^^ turnN x0 13) (turnN x0 22) (Nat.xor_lt_two_pow (n := 32) (turnN_lt 2 x0 b0) (turnN_lt 13 x0 b0)) (turnN_lt 22 x0 b0)
  have hq : turnN x0 2 ^^^ turnN x0 13 ^^^ turnN x0 22 = bs0 x0 := rfl
  rw [hq] at e2
  have tB0 := bs0_lt x0 b0
  obtain ⟨B0, hB0⟩ : ∃ y, bs0 x0 = y := ⟨_, rfl⟩
  rw [hB0] at e2 tB0
  have HB0 := sec hB0
  clear hB0 hq
  generalize turnN x0 2 ^^^ turnN x0 13 = y1 at e1 e2
  generalize turnN x0 2 = a1 at HT1 e1
  generalize turnN x0 13 = a2 at HT2 e1
  generalize turnN x0 22 = a3 at HT3 e2
  have hmo := mostN_lt x0 x1 x2 b0 b1
  have A1 := u32_and_nat x0 x1 b0 b1
  have A2 := u32_and_nat x0 x2 b0 b2
  have A3 := u32_xor_nat (x0 &&& x1) (x0 &&& x2) (Nat.lt_of_le_of_lt Nat.and_le_left b0) (Nat.lt_of_le_of_lt Nat.and_le_left b0)
  have A4 := u32_and_nat x1 x2 b1 b2
  have A5 := u32_xor_nat ((x0 &&& x1) ^^^ (x0 &&& x2)) (x1 &&& x2) (Nat.xor_lt_two_pow (n := 32) (Nat.lt_of_le_of_lt Nat.and_le_left b0) (Nat.lt_of_le_of_lt Nat.and_le_left b0)) (Nat.lt_of_le_of_lt Nat.and_le_left b1)
  rw [most_xor] at A5
  obtain ⟨mo, hmoe⟩ : ∃ p, mostN x0 x1 x2 = p := ⟨_, rfl⟩
  rw [hmoe] at hmo A5
  have HMO := sec hmoe
  clear hmoe
  generalize (x0 &&& x1) ^^^ (x0 &&& x2) = q3 at A3 A5
  generalize x0 &&& x1 = q1 at A1 A3
  generalize x0 &&& x2 = q2 at A2 A3
  generalize x1 &&& x2 = q5 at A4 A5
  go_wp2_with fail
  (with_reducible refine (HT1.out _).mono ?_)
  rintro e w3 ⟨rfl, rfl⟩
  go_wp2_with fail
  (with_reducible refine (HT2.out _).mono ?_)
  rintro e w3 ⟨rfl, rfl⟩
  go_wp2_with fail
  (with_reducible refine (HT3.out _).mono ?_)
  rintro e w3 ⟨rfl, rfl⟩
  go_wp2_with fail
  clear A1 A2 A3 A4 A5 HT1 HT2 HT3 e1 e2
  have hY : ((B0 : Int) + mo) % 4294967296 = ((B0 + mo) % 4294967296 : Nat) := by omega
  have HY : Sec (yN x0 x1 x2 = (B0 + mo) % 4294967296) := sec (by unfold yN; rw [HB0.out, HMO.out])
  have hYb : (B0 + mo) % 4294967296 < 4294967296 := Nat.mod_lt _ (by omega)
  obtain ⟨Y, hYe⟩ : ∃ y, (B0 + mo) % 4294967296 = y := ⟨_, rfl⟩
  rw [hYe] at hY HY hYb
  rw [hY]
  clear hY hYe
  have fz := HFZ.out
  have v1 : IntKind.u32.wrap ((X : Int) + Y) = ((X + Y) % 4294967296 : Nat) := by rw [IntKind.wrap_u32']; omega
  have v2 : IntKind.u32.wrap ((x3 : Int) + X) = ((x3 + X) % 4294967296 : Nat) := by rw [IntKind.wrap_u32']; omega
  have HX2 : Sec (roundL kk wk [x0, x1, x2, x3, x4, x5, x6, x7] = [(X + Y) % 4294967296, x0, x1, x2, (x3 + X) % 4294967296, x4, x5, x6]) := sec (by
    show [(xN kk wk x4 x5 x6 x7 + yN x0 x1 x2) % 4294967296, x0, x1, x2, (x3 + xN kk wk x4 x5 x6 x7) % 4294967296, x4, x5, x6] = _
    rw [HY.out, show xN kk wk x4 x5 x6 x7 = X by unfold xN; rw [HB1.out, HPK.out]; exact HX.out])
  obtain ⟨N0, hN0⟩ : ∃ y, (X + Y) % 4294967296 = y := ⟨_, rfl⟩
  obtain ⟨N4, hN4⟩ : ∃ y, (x3 + X) % 4294967296 = y := ⟨_, rfl⟩
  rw [hN0] at v1 HX2
  rw [hN4] at v2 HX2
  clear hN0 hN4
  refine wp_region_noPanic ?_
  refine wp_region_held_drew (S := fun _ => True) (by kernel_rfl) (trivial) (fun hHeld => ?_)
  refine Rg.takeL (i := 0) (v := ?_) rfl (by kernel_rfl) (by kernel_rfl) (by kernel_rfl) (fun _ _ _ h => h) (Or.inl ⟨by rfl, ?_⟩) (by assumption) ?_
  rotate_left
  · (intro wz hSw; (try dsimp only at hSw); go_simp <;> with_reducible rfl)
  try simp only [Act.put, List.setIfInBounds_toArray, List.set_cons_zero, List.set_cons_succ]
  refine Rg.takeL (i := 1) (v := ?_) rfl (by kernel_rfl) (by kernel_rfl) (by kernel_rfl) (fun _ _ _ h => h) (Or.inl ⟨by rfl, ?_⟩) (by assumption) ?_
  rotate_left
  · (intro wz hSw; (try dsimp only at hSw); go_simp <;> with_reducible rfl)
  try simp only [Act.put, List.setIfInBounds_toArray, List.set_cons_zero, List.set_cons_succ]
  refine Rg.takeL (i := 2) (v := ?_) rfl (by kernel_rfl) (by kernel_rfl) (by kernel_rfl) (fun _ _ _ h => h) (Or.inl ⟨by rfl, ?_⟩) (by assumption) ?_
  rotate_left
  · (intro wz hSw; (try dsimp only at hSw); go_simp <;> with_reducible rfl)
  try simp only [Act.put, List.setIfInBounds_toArray, List.set_cons_zero, List.set_cons_succ]
  refine Rg.takeL (i := 3) (v := ?_) rfl (by kernel_rfl) (by kernel_rfl) (by kernel_rfl) (fun _ _ _ h => h) (Or.inl ⟨by rfl, ?_⟩) (by assumption) ?_
  rotate_left
  · (intro wz hSw; (try dsimp only at hSw); go_simp <;> with_reducible rfl)
  try simp only [Act.put, List.setIfInBounds_toArray, List.set_cons_zero, List.set_cons_succ]
  refine Rg.takeL (i := 4) (v := ?_) rfl (by kernel_rfl) (by kernel_rfl) (by kernel_rfl) (fun _ _ _ h => h) (Or.inl ⟨by rfl, ?_⟩) (by assumption) ?_
  rotate_left
  · (intro wz hSw; (try dsimp only at hSw); go_simp <;> with_reducible rfl)
  try simp only [Act.put, List.setIfInBounds_toArray, List.set_cons_zero, List.set_cons_succ]
  refine Rg.takeL (i := 5) (v := ?_) rfl (by kernel_rfl) (by kernel_rfl) (by kernel_rfl) (fun _ _ _ h => h) (Or.inl ⟨by rfl, ?_⟩) (by assumption) ?_
  rotate_left
  · (intro wz hSw; (try dsimp only at hSw); go_simp <;> with_reducible rfl)
  try simp only [Act.put, List.setIfInBounds_toArray, List.set_cons_zero, List.set_cons_succ]
  refine Rg.takeL (i := 6) (v := ?_) rfl (by kernel_rfl) (by kernel_rfl) (by kernel_rfl) (fun _ _ _ h => h) (Or.inl ⟨by rfl, ?_⟩) (by assumption) ?_
  rotate_left
  · (intro wz hSw; (try dsimp only at hSw); go_simp <;> with_reducible rfl)
  try simp only [Act.put, List.setIfInBounds_toArray, List.set_cons_zero, List.set_cons_succ]
  refine Rg.takeL (i := 7) (v := ?_) rfl (by kernel_rfl) (by kernel_rfl) (by kernel_rfl) (fun _ _ _ h => h) (Or.inl ⟨by rfl, ?_⟩) (by assumption) ?_
  rotate_left
  · (intro wz hSw; (try dsimp only at hSw); go_simp <;> with_reducible rfl)
  try simp only [Act.put, List.setIfInBounds_toArray, List.set_cons_zero, List.set_cons_succ]
  refine Rg.takeL (i := 8) (v := ?_) rfl (by kernel_rfl) (by kernel_rfl) (by kernel_rfl) (fun _ _ _ h => h) (Or.inl ⟨by rfl, ?_⟩) (by assumption) ?_
  rotate_left
  · (intro wz hSw; (try dsimp only at hSw); go_simp <;> with_reducible rfl)
  try simp only [Act.put, List.setIfInBounds_toArray, List.set_cons_zero, List.set_cons_succ]
  refine Rg.takeL (i := 9) (v := ?_) rfl (by kernel_rfl) (by kernel_rfl) (by kernel_rfl) (fun _ _ _ h => h) (Or.inl ⟨by rfl, ?_⟩) (by assumption) ?_
  rotate_left
  · (intro wz hSw; (try dsimp only at hSw); go_simp <;> with_reducible rfl)
  try simp only [Act.put, List.setIfInBounds_toArray, List.set_cons_zero, List.set_cons_succ]
  refine Rg.takeL (i := 10) (v := ?_) rfl (by kernel_rfl) (by kernel_rfl) (by kernel_rfl) (fun _ _ _ h => h) (Or.inl ⟨by rfl, ?_⟩) (by assumption) ?_
  rotate_left
  · (intro wz hSw; (try dsimp only at hSw); go_simp <;> with_reducible rfl)
  try simp only [Act.put, List.setIfInBounds_toArray, List.set_cons_zero, List.set_cons_succ]
  refine Rg.takeL (i := 11) (v := ?_) rfl (by kernel_rfl) (by kernel_rfl) (by kernel_rfl) (fun _ _ _ h => h) (Or.inl ⟨by rfl, ?_⟩) (by assumption) ?_
  rotate_left
  · (intro wz hSw; (try dsimp only at hSw); go_simp <;> with_reducible rfl)
  try simp only [Act.put, List.setIfInBounds_toArray, List.set_cons_zero, List.set_cons_succ]
  refine Rg.takeL (i := 13) (v := ?_) rfl (by kernel_rfl) (by kernel_rfl) (by kernel_rfl) (fun _ _ _ h => h) (Or.inl ⟨by rfl, ?_⟩) (by assumption) ?_
  rotate_left
  · (intro wz hSw; (try dsimp only at hSw); go_simp <;> with_reducible rfl)
  try simp only [Act.put, List.setIfInBounds_toArray, List.set_cons_zero, List.set_cons_succ]
  refine Rg.takeL (i := 16) (v := ?_) rfl (by kernel_rfl) (by kernel_rfl) (by kernel_rfl) (fun _ _ _ h => h) (Or.inl ⟨by rfl, ?_⟩) (by assumption) ?_
  rotate_left
  · (intro wz hSw; (try dsimp only at hSw); go_simp <;> with_reducible rfl)
  try simp only [Act.put, List.setIfInBounds_toArray, List.set_cons_zero, List.set_cons_succ]
  refine Rg.takeL (i := 19) (v := ?_) rfl (by kernel_rfl) (by kernel_rfl) (by kernel_rfl) (fun _ _ _ h => h) (Or.inl ⟨by rfl, ?_⟩) (by assumption) ?_
  rotate_left
  · (intro wz hSw; (try dsimp only at hSw); go_simp <;> with_reducible rfl)
  try simp only [Act.put, List.setIfInBounds_toArray, List.set_cons_zero, List.set_cons_succ]
  refine wpAnyH_ready (rs := [12]) (by kernel_rfl) (by simp) ?_
  refine Rg.readyL (i := 12) rfl (fun K hK => ?_)
  go_simp
  refine hK.out _ _ ?_ (fun hHeld => ?_)
  · trivial
  clear hK K
  try simp only [Act.put, List.setIfInBounds_toArray, List.set_cons_zero, List.set_cons_succ]
  refine Rg.takeL (i := 14) (v := ?_) rfl (by kernel_rfl) (by kernel_rfl) (by kernel_rfl) (fun _ _ _ h => h) (Or.inl ⟨by rfl, ?_⟩) (by assumption) ?_
  rotate_left
  · (intro wz hSw; (try dsimp only at hSw); go_simp <;> with_reducible rfl)
  try simp only [Act.put, List.setIfInBounds_toArray, List.set_cons_zero, List.set_cons_succ]
  refine wpAnyH_ready (rs := [15]) (by kernel_rfl) (by simp) ?_
  refine Rg.readyL (i := 15) rfl (fun K hK => ?_)
  go_simp
  refine hK.out _ _ ?_ (fun hHeld => ?_)
  · trivial
  clear hK K
  try simp only [Act.put, List.setIfInBounds_toArray, List.set_cons_zero, List.set_cons_succ]
  refine Rg.takeL (i := 17) (v := ?_) rfl (by kernel_rfl) (by kernel_rfl) (by kernel_rfl) (fun _ _ _ h => h) (Or.inl ⟨by rfl, ?_⟩) (by assumption) ?_
  rotate_left
  · (intro wz hSw; (try dsimp only at hSw); go_simp <;> with_reducible rfl)
  try simp only [Act.put, List.setIfInBounds_toArray, List.set_cons_zero, List.set_cons_succ]
  refine wpAnyH_ready (rs := [18]) (by kernel_rfl) (by simp) ?_
  refine Rg.readyL (i := 18) rfl (fun K hK => ?_)
  go_simp
  refine hK.out _ _ ?_ (fun hHeld => ?_)
  · trivial
  clear hK K
  try simp only [Act.put, List.setIfInBounds_toArray, List.set_cons_zero, List.set_cons_succ]
  refine Rg.takeL (i := 20) (v := ?_) rfl (by kernel_rfl) (by kernel_rfl) (by kernel_rfl) (fun _ _ _ h => h) (Or.inl ⟨by rfl, ?_⟩) (by assumption) ?_
  rotate_left
  · (intro wz hSw; (try dsimp only at hSw); go_simp <;> with_reducible rfl)
  try simp only [Act.put, List.setIfInBounds_toArray, List.set_cons_zero, List.set_cons_succ]
  refine wpAnyH_ready (rs := [21]) (by kernel_rfl) (by simp) ?_
  refine Rg.readyL (i := 21) rfl (fun K hK => ?_)
  go_simp
  refine hK.out _ _ ?_ (fun hHeld => ?_)
  · trivial
  clear hK K
  try simp only [Act.put, List.setIfInBounds_toArray, List.set_cons_zero, List.set_cons_succ]
  refine wpAnyH_done (by kernel_rfl) ?_ _
  refine NoPanic.normal ?_
  go_wp2_with fail
  refine wp_region_noPanic ?_
  refine wp_region_held_drew (S := fun _ => True) (by kernel_rfl) (trivial) (fun hHeld => ?_)
  refine Rg.takeL (i := 0) (v := ?_) rfl (by kernel_rfl) (by kernel_rfl) (by kernel_rfl) (fun _ _ _ h => h) (Or.inl ⟨by rfl, ?_⟩) (by assumption) ?_
  rotate_left
  · (intro wz hSw; (try dsimp only at hSw); go_simp <;> with_reducible rfl)
  try simp only [Act.put, List.setIfInBounds_toArray, List.set_cons_zero, List.set_cons_succ]
  refine Rg.takeL (i := 1) (v := ?_) rfl (by kernel_rfl) (by kernel_rfl) (by kernel_rfl) (fun _ _ _ h => h) (Or.inl ⟨by rfl, ?_⟩) (by assumption) ?_
  rotate_left
  · (intro wz hSw; (try dsimp only at hSw); go_simp <;> with_reducible rfl)
  try simp only [Act.put, List.setIfInBounds_toArray, List.set_cons_zero, List.set_cons_succ]
  refine Rg.takeL (i := 2) (v := ?_) rfl (by kernel_rfl) (by kernel_rfl) (by kernel_rfl) (fun _ _ _ h => h) (Or.inl ⟨by rfl, ?_⟩) (by assumption) ?_
  rotate_left
  · (intro wz hSw; (try dsimp only at hSw); go_simp <;> with_reducible rfl)
  try simp only [Act.put, List.setIfInBounds_toArray, List.set_cons_zero, List.set_cons_succ]
  refine Rg.takeL (i := 3) (v := ?_) rfl (by kernel_rfl) (by kernel_rfl) (by kernel_rfl) (fun _ _ _ h => h) (Or.inl ⟨by rfl, ?_⟩) (by assumption) ?_
  rotate_left
  · (intro wz hSw; (try dsimp only at hSw); go_simp <;> with_reducible rfl)
  try simp only [Act.put, List.setIfInBounds_toArray, List.set_cons_zero, List.set_cons_succ]
  refine Rg.takeL (i := 4) (v := ?_) rfl (by kernel_rfl) (by kernel_rfl) (by kernel_rfl) (fun _ _ _ h => h) (Or.inl ⟨by rfl, ?_⟩) (by assumption) ?_
  rotate_left
  · (intro wz hSw; (try dsimp only at hSw); go_simp <;> with_reducible rfl)
  try simp only [Act.put, List.setIfInBounds_toArray, List.set_cons_zero, List.set_cons_succ]
  refine Rg.takeL (i := 5) (v := ?_) rfl (by kernel_rfl) (by kernel_rfl) (by kernel_rfl) (fun _ _ _ h => h) (Or.inl ⟨by rfl, ?_⟩) (by assumption) ?_
  rotate_left
  · (intro wz hSw; (try dsimp only at hSw); go_simp <;> with_reducible rfl)
  try simp only [Act.put, List.setIfInBounds_toArray, List.set_cons_zero, List.set_cons_succ]
  refine Rg.takeL (i := 6) (v := ?_) rfl (by kernel_rfl) (by kernel_rfl) (by kernel_rfl) (fun _ _ _ h => h) (Or.inl ⟨by rfl, ?_⟩) (by assumption) ?_
  rotate_left
  · (intro wz hSw; (try dsimp only at hSw); go_simp <;> with_reducible rfl)
  try simp only [Act.put, List.setIfInBounds_toArray, List.set_cons_zero, List.set_cons_succ]
  refine Rg.takeL (i := 7) (v := ?_) rfl (by kernel_rfl) (by kernel_rfl) (by kernel_rfl) (fun _ _ _ h => h) (Or.inl ⟨by rfl, ?_⟩) (by assumption) ?_
  rotate_left
  · (intro wz hSw; (try dsimp only at hSw); go_simp <;> with_reducible rfl)
  try simp only [Act.put, List.setIfInBounds_toArray, List.set_cons_zero, List.set_cons_succ]
  refine Rg.takeL (i := 8) (v := ?_) rfl (by kernel_rfl) (by kernel_rfl) (by kernel_rfl) (fun _ _ _ h => h) (Or.inl ⟨by rfl, ?_⟩) (by assumption) ?_
  rotate_left
  · (intro wz hSw; (try dsimp only at hSw); go_simp <;> with_reducible rfl)
  try simp only [Act.put, List.setIfInBounds_toArray, List.set_cons_zero, List.set_cons_succ]
  refine Rg.takeL (i := 9) (v := ?_) rfl (by kernel_rfl) (by kernel_rfl) (by kernel_rfl) (fun _ _ _ h => h) (Or.inl ⟨by rfl, ?_⟩) (by assumption) ?_
  rotate_left
  · (intro wz hSw; (try dsimp only at hSw); go_simp <;> with_reducible rfl)
  try simp only [Act.put, List.setIfInBounds_toArray, List.set_cons_zero, List.set_cons_succ]
  refine Rg.takeL (i := 10) (v := ?_) rfl (by kernel_rfl) (by kernel_rfl) (by kernel_rfl) (fun _ _ _ h => h) (Or.inl ⟨by rfl, ?_⟩) (by assumption) ?_
  rotate_left
  · (intro wz hSw; (try dsimp only at hSw); go_simp <;> with_reducible rfl)
  try simp only [Act.put, List.setIfInBounds_toArray, List.set_cons_zero, List.set_cons_succ]
  refine Rg.takeL (i := 11) (v := ?_) rfl (by kernel_rfl) (by kernel_rfl) (by kernel_rfl) (fun _ _ _ h => h) (Or.inl ⟨by rfl, ?_⟩) (by assumption) ?_
  rotate_left
  · (intro wz hSw; (try dsimp only at hSw); go_simp <;> with_reducible rfl)
  try simp only [Act.put, List.setIfInBounds_toArray, List.set_cons_zero, List.set_cons_succ]
  refine Rg.takeL (i := 13) (v := ?_) rfl (by kernel_rfl) (by kernel_rfl) (by kernel_rfl) (fun _ _ _ h => h) (Or.inl ⟨by rfl, ?_⟩) (by assumption) ?_
  rotate_left
  · (intro wz hSw; (try dsimp only at hSw); go_simp <;> with_reducible rfl)
  try simp only [Act.put, List.setIfInBounds_toArray, List.set_cons_zero, List.set_cons_succ]
  refine Rg.takeL (i := 16) (v := ?_) rfl (by kernel_rfl) (by kernel_rfl) (by kernel_rfl) (fun _ _ _ h => h) (Or.inl ⟨by rfl, ?_⟩) (by assumption) ?_
  rotate_left
  · (intro wz hSw; (try dsimp only at hSw); go_simp <;> with_reducible rfl)
  try simp only [Act.put, List.setIfInBounds_toArray, List.set_cons_zero, List.set_cons_succ]
  refine Rg.takeL (i := 19) (v := ?_) rfl (by kernel_rfl) (by kernel_rfl) (by kernel_rfl) (fun _ _ _ h => h) (Or.inl ⟨by rfl, ?_⟩) (by assumption) ?_
  rotate_left
  · (intro wz hSw; (try dsimp only at hSw); go_simp <;> with_reducible rfl)
  try simp only [Act.put, List.setIfInBounds_toArray, List.set_cons_zero, List.set_cons_succ]
  refine wpAnyH_ready (rs := [12]) (by kernel_rfl) (by simp) ?_
  refine Rg.readyL (i := 12) rfl (fun K hK => ?_)
  go_simp
  refine hK.out _ _ ?_ (fun hHeld => ?_)
  · trivial
  clear hK K
  try simp only [Act.put, List.setIfInBounds_toArray, List.set_cons_zero, List.set_cons_succ]
  refine Rg.takeL (i := 14) (v := ?_) rfl (by kernel_rfl) (by kernel_rfl) (by kernel_rfl) (fun _ _ _ h => h) (Or.inl ⟨by rfl, ?_⟩) (by assumption) ?_
  rotate_left
  · (intro wz hSw; (try dsimp only at hSw); go_simp <;> with_reducible rfl)
  try simp only [Act.put, List.setIfInBounds_toArray, List.set_cons_zero, List.set_cons_succ]
  refine wpAnyH_ready (rs := [15]) (by kernel_rfl) (by simp) ?_
  refine Rg.readyL (i := 15) rfl (fun K hK => ?_)
  go_simp
  refine hK.out _ _ ?_ (fun hHeld => ?_)
  · trivial
  clear hK K
  try simp only [Act.put, List.setIfInBounds_toArray, List.set_cons_zero, List.set_cons_succ]
  refine Rg.takeL (i := 17) (v := ?_) rfl (by kernel_rfl) (by kernel_rfl) (by kernel_rfl) (fun _ _ _ h => h) (Or.inl ⟨by rfl, ?_⟩) (by assumption) ?_
  rotate_left
  · (intro wz hSw; (try dsimp only at hSw); go_simp <;> with_reducible rfl)
  try simp only [Act.put, List.setIfInBounds_toArray, List.set_cons_zero, List.set_cons_succ]
  refine wpAnyH_ready (rs := [18]) (by kernel_rfl) (by simp) ?_
  refine Rg.readyL (i := 18) rfl (fun K hK => ?_)
  go_simp
  refine hK.out _ _ ?_ (fun hHeld => ?_)
  · trivial
  clear hK K
  try simp only [Act.put, List.setIfInBounds_toArray, List.set_cons_zero, List.set_cons_succ]
  refine Rg.takeL (i := 20) (v := ?_) rfl (by kernel_rfl) (by kernel_rfl) (by kernel_rfl) (fun _ _ _ h => h) (Or.inl ⟨by rfl, ?_⟩) (by assumption) ?_
  rotate_left
  · (intro wz hSw; (try dsimp only at hSw); go_simp <;> with_reducible rfl)
  try simp only [Act.put, List.setIfInBounds_toArray, List.set_cons_zero, List.set_cons_succ]
  refine wpAnyH_ready (rs := [21]) (by kernel_rfl) (by simp) ?_
  refine Rg.readyL (i := 21) rfl (fun K hK => ?_)
  go_simp
  refine hK.out _ _ ?_ (fun hHeld => ?_)
  · trivial
  clear hK K
  try simp only [Act.put, List.setIfInBounds_toArray, List.set_cons_zero, List.set_cons_succ]
  refine wpAnyH_done (by kernel_rfl) ?_ _
  refine NoPanic.normal ?_
  clear v1 v2 hHeld fz c0 c1 c2 c3 c4 c5 c6 c7 hn hw
  go_end0
  have k0 : (w.drewN (n1 + n2 + 1 + 1)).heap[g]? = some (.cells (ac [x0, x1, x2, x3, x4, x5, x6, x7]) 77 (0, 0)) := HG.out
  have k1 := heap_setCell_same _ g 0 _ _ (.int .u32 N0) k0
  have k2 := heap_setCell_same _ g 1 _ _ (.int .u32 x0) k1
  have k3 := heap_setCell_same _ g 2 _ _ (.int .u32 x1) k2
  have k4 := heap_setCell_same _ g 3 _ _ (.int .u32 x2) k3
  have k5 := heap_setCell_same _ g 4 _ _ (.int .u32 N4) k4
  have k6 := heap_setCell_same _ g 5 _ _ (.int .u32 x4) k5
  have k7 := heap_setCell_same _ g 6 _ _ (.int .u32 x5) k6
  have k8 := heap_setCell_same _ g 7 _ _ (.int .u32 x6) k7
  refine ⟨rfl, ?_, ?_⟩
  · rw [HX2.out, heap_drew, k8, ac_set8]
  · exact drewg (setg _ (setg _ (setg _ (setg _ (setg _ (setg _ (setg _ (setg _ ⟨rfl, rfl, rfl, Nat.le_refl _, fun _ _ _ => rfl⟩))))))))
end Sm
end Go.Proofs.YtlembfhdljmcoaaDoor
