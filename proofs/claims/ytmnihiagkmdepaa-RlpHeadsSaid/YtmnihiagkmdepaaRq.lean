/-
  Contracts of rlp.Get and rlp.Whole, of any bytes.
-/
import Derived.Test.YtmnihiagkmdepaaRp
namespace Go.Proofs.Ytmnihiagkmdepaa
open Go.RowKit

namespace Rl
open Pk
theorem read_tells (s : ByteArray) (hsz : s.size ≤ 9223372036854775807) (hA : ∀ t : ByteArray, t.size < s.size → AllC t) : ReadC s := by
  intro around k g ar w har ha hk hT
  rw [readL_eq]
  by_cases h1 : 64 < around
  · rw [if_pos h1]; exact read_deep s around k g ar w har h1 hk hT
  · rw [if_neg h1]
    by_cases h2 : 4096 < k + 1
    · rw [if_pos h2]; exact read_big s around k g ar w har (by omega) hk h2 hT
    · rw [if_neg h2]
      cases hh : headE s.data.toList with
      | error c => exact read_head s around k g ar c w har (by omega) (by omega) hT hh
      | ok r =>
        obtain ⟨l, a, v⟩ := r
        dsimp only
        have hp : a ≤ s.size ∧ 1 ≤ a + v ∧ v < 2 ^ 64 ∧ (l = true → 1 ≤ a) := by
          cases hl : s.data.toList with
          | nil => rw [hl] at hh; cases hh
          | cons c t =>
            rw [hl] at hh
            have hsl : s.size = t.length + 1 := by rw [size_len, hl]; rfl
            obtain ⟨q1, q2, q3, _, q5⟩ := headE_props hh
            exact ⟨by omega, q2, q3, q5⟩
        obtain ⟨hp1, hp2, hp3, hp4⟩ := hp
        rw [← size_len]
        by_cases h3 : s.size - a < v
        · rw [if_pos h3]; exact read_short s around k g ar w l a v har (by omega) (by omega) hT hh hsz hp1 h3
        · rw [if_neg h3]
          have has : a + v ≤ s.size := by omega
          cases l with
          | true =>
            rw [if_pos rfl]
            exact read_list s around k g ar w a v har (by omega) (by omega) hT hh hsz has (hA _ (by rw [ByteArray.size_extract]; have := hp4 rfl; omega))
          | false =>
            rw [if_neg (by decide)]
            by_cases h4 : a = 1 ∧ v = 1 ∧ ((s.data.toList.drop 1).headD 0).toNat < 128
            · rw [if_pos h4]
              exact read_one s around k g ar w a v har (by omega) (by omega) hT hh hsz has h4.1 h4.2.1 h4.2.2
            · rw [if_neg h4]
              by_cases h5 : a = 1
              · by_cases h6 : v = 1
                · exact read_text3 s around k g ar w a v har (by omega) (by omega) hT hh hsz has h5 h6 (by
                    have : ¬ ((s.data.toList.drop 1).headD 0).toNat < 128 := fun e => h4 ⟨h5, h6, e⟩
                    omega)
                · exact read_text2 s around k g ar w a v har (by omega) (by omega) hT hh hsz has h5 h6
              · exact read_text1 s around k g ar w a v har (by omega) (by omega) hT hh hsz has h5
theorem tells (N : Nat) : ∀ s : ByteArray, s.size ≤ N → s.size ≤ 9223372036854775807 → ReadC s ∧ AllC s := by
  induction N using Nat.strongRecOn with
  | ind N ih =>
    have hr : ∀ s : ByteArray, s.size ≤ N → s.size ≤ 9223372036854775807 → ReadC s := fun s hN hs =>
      read_tells s hs fun t ht => (ih t.size (by omega) t (Nat.le_refl _) (by omega)).2
    exact fun s hN hs => ⟨hr s hN hs, all_tells s hs fun t ht => hr t (by omega) (by omega)⟩

/-- what was there is as it was, but for these blocks -/
structure Fr (ks : List Nat) (w w' : World) : Prop where
  os : w'.os = w.os
  tape : w'.tape = w.tape
  output : w'.output = w.output
  size : w.heap.size ≤ w'.heap.size
  block : ∀ k, k < w.heap.size → k ∉ ks → w'.heap[k]? = w.heap[k]?
theorem Fr.of {g : Nat} {ks : List Nat} {w w' : World} (h : w.grownBy w' (some g)) (hg : g ∈ ks) : Fr ks w w' :=
  ⟨h.os, h.tape, h.output, h.size, fun k hk hn => h.block k hk (fun e => hn (by rw [Option.some.inj e]; exact hg))⟩
theorem Fr.row {g : Nat} {ks : List Nat} {w w1 : World} (h : Fr ks w w1) (hg : g ∈ ks) (cs : Array Value) : Fr ks w (w1.setRow g cs) :=
  ⟨h.os, h.tape, h.output, by simp; exact h.size, fun k hk hn => (setRow_other w1 g k cs (fun e => hn (e ▸ hg))).trans (h.block k hk hn)⟩
theorem Fr.below {ks : List Nat} {B : Nat} {w0 w w' : World} (h : Fr ks w w') (hb : Below B w0 w) (hB : B ≤ w0.heap.size) (hk : ∀ k, k ∈ ks → B ≤ k) : Below B w0 w' :=
  ⟨h.os.trans hb.os, h.tape.trans hb.tape, h.output.trans hb.output, Nat.le_trans hb.size h.size, fun k hlt => (h.block k (Nat.lt_of_lt_of_le hlt (Nat.le_trans hB hb.size)) (fun e => by have := hk k e; omega)).trans (hb.block k hlt)⟩
theorem Fr.own {ks : List Nat} {w w' : World} {b : Nat} {cs : Array Value} {T : TypeId} (h : Fr ks w w') (ho : Rg.Own w b cs T) (hn : b ∉ ks) : Rg.Own w' b cs T :=
  ⟨Nat.lt_of_lt_of_le ho.1 h.size, (h.block b ho.1 hn).trans ho.2⟩
theorem own_row {w : World} {b g : Nat} {cs cs' : Array Value} {T : TypeId} (h : Rg.Own w b cs T) (hne : b ≠ g) : Rg.Own (w.setRow g cs') b cs T :=
  ⟨by simp; exact h.1, (setRow_other w g b cs' hne).trans h.2⟩
theorem own_row_same {w : World} {b : Nat} {cs cs' : Array Value} {T : TypeId} (h : Rg.Own w b cs T) : Rg.Own (w.setRow b cs') b cs' T :=
  ⟨by simp; exact h.1, setRow_heap _ _ _ _ _ _ h.2⟩

set_option maxRecDepth 100000 in
set_option maxHeartbeats 4000000 in
theorem getDo_ok (s : ByteArray) (hC : ReadC s) (x : It) (n k' : Nat) (hr : readL s.data.toList 0 0 = .ok (x, n, k')) (g bs bx bn : Nat) (w : World) (hT : Tal w g 0) (hS : Rg.Own w bs #[.string s] 9) (hX : Rg.Own w bx (itC it0 none 0 0) 24) (hN : Rg.Own w bn #[.int .i64 0] 3)
    (h2 : bx ≠ g) (h3 : bn ≠ g) (h4 : bn ≠ bx) :
    Calls Try.prog 28 #[.pointer (some ⟨g, 0, none⟩), .pointer (some ⟨bs, 0, none⟩), .pointer (some ⟨bx, 0, none⟩), .pointer (some ⟨bn, 0, none⟩)] w fun e w' =>
      e = .returned (.tuple #[]) ∧ ∃ a nn cap, Rg.Own w' bx (itC x a nn cap) 24 ∧ Rg.Own w' bn #[.int .i64 n] 3 ∧ ItsIn w.heap.size w' x.xs a nn cap ∧ Fr [g, bx, bn] w w' := by
  have hd := hC 0 0 g 0 w rfl (by omega) (by omega) hT
  rw [hr] at hd
  have HD : Hid (Calls Try.prog 29 #[.pointer (some ⟨g, 0, none⟩), .string s, .int .i64 0] w fun e w' =>
      ∃ a nn cap, e = .returned (.tuple #[itV x a nn cap, .int .i64 n]) ∧ ItsIn w.heap.size w' x.xs a nn cap ∧ Tal w' g k' ∧ w.grownBy w' (some g)) := Lib.hid hd
  obtain ⟨c0, _⟩ := own_one hS
  have HX := Lib.hid hX
  have HN := Lib.hid hN
  unfold itV at HD
  clear hd hC hr hT hS hX hN
  go_enter Try.func28, Try.ntmps28
  go_wp2_with fail
  with_reducible refine HD.out.mono ?_
  rintro e w1 ⟨a, nn, cap, rfl, hI, _, hg⟩
  have HO1 := Lib.hid (own_gb HX.out hg h2)
  have HO2 := Lib.hid (own_gb HN.out hg h3)
  have HI := Lib.hid hI
  have HF := Lib.hid (Fr.of (ks := [g, bx, bn]) hg (by simp))
  have HO3 := Lib.hid (own_row HO2.out (cs' := itC x a nn cap) h4)
  clear hI hg c0
  go_wp2_with (first | (refine wpList_store_rowTo rfl 24 _ _ rfl rfl _ (itC x a nn cap) rfl rfl 24 (itC it0 none 0 0) HO1.out.2 (info_itC _ _ _ _) rfl (itC_one _ _ _ _) ?_) | (refine wpList_store_oneTo rfl 3 _ _ rfl rfl _ (.int .i64 n) rfl rfl rfl 3 (.int .i64 0) HO3.out.2 (by kernel_rfl) ?_))
  go_end0
  refine ⟨rfl, a, nn, cap, own_row (own_row_same HO1.out) (Ne.symm h4), own_row_same HO3.out, ?_, (HF.out.row (by simp) _).row (by simp) _⟩
  exact ItsIn_row (ItsIn_row HI.out HX.out.1 _) HN.out.1 _
set_option maxRecDepth 100000 in
set_option maxHeartbeats 4000000 in
theorem getDo_err (s : ByteArray) (hC : ReadC s) (c : Int) (hr : readL s.data.toList 0 0 = .error c) (g bs bx bn : Nat) (w : World) (hT : Tal w g 0) (hS : Rg.Own w bs #[.string s] 9) :
    Calls Try.prog 28 #[.pointer (some ⟨g, 0, none⟩), .pointer (some ⟨bs, 0, none⟩), .pointer (some ⟨bx, 0, none⟩), .pointer (some ⟨bn, 0, none⟩)] w fun e w' => e = .panicked [errP c] ∧ w.grownBy w' (some g) := by
  have hd := hC 0 0 g 0 w rfl (by omega) (by omega) hT
  rw [hr] at hd
  have HD : Hid (Calls Try.prog 29 #[.pointer (some ⟨g, 0, none⟩), .string s, .int .i64 0] w fun e w' => e = .panicked [errP c] ∧ w.grownBy w' (some g)) := Lib.hid hd
  obtain ⟨c0, _⟩ := own_one hS
  clear hd hC hr hT hS
  go_enter Try.func28, Try.ntmps28
  go_wp2_with fail
  with_reducible refine HD.out.mono ?_
  rintro e w1 ⟨rfl, hg⟩
  have HG := Lib.hid hg
  clear hg
  go_wp2
  simp [bodyPost]
  exact HG.out
theorem its_upd {B g : Nat} {w w' : World} {xs : List It} {a : Option Addr} {n cap : Nat} (h : ItsIn B w xs a n cap) (hu : Rg.Upd w g w') (hg : g < B) : ItsIn B w' xs a n cap :=
  ItsIn.kept h (Nat.le_of_eq hu.size.symm) (fun b o hB _ => World.cell?_of_block (a := ⟨b, o, none⟩) (hu.block b (by omega)))
/-- the world in which Get asks -/
def getW (s : ByteArray) (w : World) : World := ((((w.alloc (.cells #[.string s] 9)).alloc (.cells #[.bool false, .string ⟨#[]⟩, .slice none 0 0] 24)).alloc (.cells #[.int .i64 0] 52)).alloc (.cells #[.bool false, .string ⟨#[]⟩, .slice none 0 0] 24)).alloc (.cells #[.int .i64 0] 3)
abbrev getDo (w : World) : Value := .func (.func 28) #[] #[.pointer (some ⟨w.heap.size + 2, 0, none⟩), .pointer (some ⟨w.heap.size, 0, none⟩), .pointer (some ⟨w.heap.size + 3, 0, none⟩), .pointer (some ⟨w.heap.size + 4, 0, none⟩)]
theorem getW_facts (s : ByteArray) (w : World) : (getW s w).heap.size = w.heap.size + 5 ∧ Below w.heap.size w (getW s w) ∧ Rg.Own (getW s w) w.heap.size #[.string s] 9 ∧ Rg.Own (getW s w) (w.heap.size + 1) (itC it0 none 0 0) 24 ∧
    Rg.Own (getW s w) (w.heap.size + 2) #[.int .i64 0] 52 ∧ Rg.Own (getW s w) (w.heap.size + 3) (itC it0 none 0 0) 24 ∧ Rg.Own (getW s w) (w.heap.size + 4) #[.int .i64 0] 3 := by
  unfold getW
  obtain ⟨w1, h1⟩ : ∃ w1, w1 = w.alloc (.cells #[.string s] 9) := ⟨_, rfl⟩
  have s1 : w1.heap.size = w.heap.size + 1 := by rw [h1]; simp
  have o1 : Rg.Own w1 w.heap.size #[.string s] 9 := by rw [h1]; exact Rg.Own.new _ _ _
  have b1 : Below w.heap.size w w1 := by rw [h1]; exact al1 _ _
  rw [← h1]
  obtain ⟨w2, h2⟩ : ∃ w2, w2 = w1.alloc (.cells #[.bool false, .string ⟨#[]⟩, .slice none 0 0] 24) := ⟨_, rfl⟩
  have s2 : w2.heap.size = w.heap.size + 2 := by rw [h2]; simp; omega
  have o2 : Rg.Own w2 w1.heap.size (itC it0 none 0 0) 24 := by rw [h2]; exact Rg.Own.new _ _ _
  have b2 : Below w1.heap.size w1 w2 := by rw [h2]; exact al1 _ _
  rw [← h2]
  obtain ⟨w3, h3⟩ : ∃ w3, w3 = w2.alloc (.cells #[.int .i64 0] 52) := ⟨_, rfl⟩
  have s3 : w3.heap.size = w.heap.size + 3 := by rw [h3]; simp; omega
  have o3 : Rg.Own w3 w2.heap.size #[.int .i64 0] 52 := by rw [h3]; exact Rg.Own.new _ _ _
  have b3 : Below w2.heap.size w2 w3 := by rw [h3]; exact al1 _ _
  rw [← h3]
  obtain ⟨w4, h4⟩ : ∃ w4, w4 = w3.alloc (.cells #[.bool false, .string ⟨#[]⟩, .slice none 0 0] 24) := ⟨_, rfl⟩
  have s4 : w4.heap.size = w.heap.size + 4 := by rw [h4]; simp; omega
  have o4 : Rg.Own w4 w3.heap.size (itC it0 none 0 0) 24 := by rw [h4]; exact Rg.Own.new _ _ _
  have b4 : Below w3.heap.size w3 w4 := by rw [h4]; exact al1 _ _
  rw [← h4]
  obtain ⟨w5, h5⟩ : ∃ w5, w5 = w4.alloc (.cells #[.int .i64 0] 3) := ⟨_, rfl⟩
  have s5 : w5.heap.size = w.heap.size + 5 := by rw [h5]; simp; omega
  have o5 : Rg.Own w5 w4.heap.size #[.int .i64 0] 3 := by rw [h5]; exact Rg.Own.new _ _ _
  have b5 : Below w4.heap.size w4 w5 := by rw [h5]; exact al1 _ _
  rw [← h5]
  rw [s1] at o2
  rw [s2] at o3
  rw [s3] at o4
  rw [s4] at o5
  exact ⟨s5, below_step' (below_step' (below_step' (below_step' b1 b2) b3) b4) b5, (((o1.below b2).below b3).below b4).below b5, ((o2.below b3).below b4).below b5, (o3.below b4).below b5, o4.below b5, o5⟩

set_option maxRecDepth 100000 in
set_option maxHeartbeats 4000000 in
theorem get_core (s : ByteArray) (x : It) (n c : Int) (w : World) (P : Option Addr → Nat → Nat → Prop) (H : Calls Try.prog 23 #[getDo w] (getW s w) fun e w' => e = .returned (.int .i64 c) ∧
      ∃ a nn cap, Rg.Own w' (w.heap.size + 3) (itC x a nn cap) 24 ∧ Rg.Own w' (w.heap.size + 4) #[.int .i64 n] 3 ∧ Rg.Own w' (w.heap.size + 1) (itC it0 none 0 0) 24 ∧ P a nn cap ∧ ItsIn (w.heap.size + 5) w' x.xs a nn cap ∧ Below w.heap.size w w') :
    Calls Try.prog 17 #[.string s] w fun e w' => ∃ a nn cap, e = .returned (.tuple #[itV x a nn cap, .int .i64 n, .int .i64 c]) ∧ P a nn cap ∧ ItsIn (w.heap.size + 5) w' x.xs a nn cap ∧ Below w.heap.size w w' := by
  have hmf : ∀ (fn : Fn) (first cap : Array Value) (w : World), (Instr.makeFunc fn first cap).run Try.prog w = .ok (.func fn first cap) w := fun _ _ _ _ => rfl
  have HC := Lib.hid H
  clear H
  obtain ⟨w5, hw5⟩ : ∃ w5, w5 = getW s w := ⟨_, rfl⟩
  rw [← hw5] at HC
  unfold getW at hw5
  go_enter Try.func17, Try.ntmps17
  go_wp2_with fail
  rw [← hw5]
  with_reducible refine HC.out.mono ?_
  rintro e w6 ⟨rfl, a, nn, cap, hX, hN, hO, hP, hI6, hB6⟩
  have HP := Lib.hid hP
  have HI6 := Lib.hid hI6
  have HB6 := Lib.hid hB6
  clear hI6 hB6 hP HC hw5
  go_wp2_with fail
  refine wp_region_noPanic ?_
  refine wp_region_held_drew (S := fun w' => Rg.Own w' (w.heap.size + 3) (itC x a nn cap) 24 ∧ Rg.Own w' (w.heap.size + 4) #[.int .i64 n] 3) (by kernel_rfl) (⟨hX.drew, hN.drew⟩) (fun hHeld => ?_)
  refine Rg.takeL (i := 0) (v := ?_) rfl (by kernel_rfl) (by kernel_rfl) (by kernel_rfl) (fun _ _ _ h => h) (Or.inl ⟨by rfl, ?_⟩) (by assumption) ?_
  rotate_left
  · (intro wz hSw; obtain ⟨z0, z1, z2⟩ := lies_row hSw.1.2; go_simp <;> with_reducible rfl)
  try simp only [Act.put, List.setIfInBounds_toArray, List.set_cons_zero, List.set_cons_succ]
  refine Rg.takeL (i := 1) (v := ?_) rfl (by kernel_rfl) (by kernel_rfl) (by kernel_rfl) (fun _ _ _ h => h) (Or.inl ⟨by rfl, ?_⟩) (by assumption) ?_
  rotate_left
  · (intro wz hSw; have z := (own_one hSw.2).1; go_simp <;> with_reducible rfl)
  try simp only [Act.put, List.setIfInBounds_toArray, List.set_cons_zero, List.set_cons_succ]
  refine Rg.takeL (i := 2) (v := ?_) rfl (by kernel_rfl) (by kernel_rfl) (by kernel_rfl) (fun _ _ _ h => h) (Or.inl ⟨by rfl, ?_⟩) (by assumption) ?_
  rotate_left
  · (intro wz hSw; (try dsimp only at hSw); go_simp <;> with_reducible rfl)
  try simp only [Act.put, List.setIfInBounds_toArray, List.set_cons_zero, List.set_cons_succ]
  refine wpAnyH_ready (rs := [3]) (by kernel_rfl) (by simp) ?_
  refine Rg.readyL (i := 3) rfl (fun K hK => ?_)
  refine Rg.meetStore (by rfl) hO 24 (itC x a nn cap) ⟨_, _, rfl, rfl, rfl⟩ (info_itC _ _ _ _) rfl (itC_one _ _ _ _) ?_
  rintro wv9 hn9 hu
  have hx9 := hHeld.1.upd hu (by omega)
  have hm9 := hHeld.2.upd hu (by omega)
  have HB9 := Lib.hid (hu.below (B := w.heap.size) HB6.out.drew (by omega))
  have HI9 := Lib.hid (its_upd (HI6.out.stays (Below.refl _ _).drew) hu (by omega))
  refine hK.out _ _ ?_ (fun hHeld => ?_)
  · exact ⟨hx9, hm9⟩
  clear hK K hu hx9 hm9 hO
  try simp only [Act.put]
  refine Rg.takeL (i := 4) (v := ?_) rfl (by kernel_rfl) (by kernel_rfl) (by kernel_rfl) (fun _ _ _ h => h) (Or.inl ⟨by rfl, ?_⟩) (by assumption) ?_
  rotate_left
  · (intro wz hSw; (try dsimp only at hSw); go_simp <;> with_reducible rfl)
  try simp only [Act.put, List.setIfInBounds_toArray, List.set_cons_zero, List.set_cons_succ]
  refine Rg.takeL (i := 5) (v := ?_) rfl (by kernel_rfl) (by kernel_rfl) (by kernel_rfl) (fun _ _ _ h => h) (Or.inl ⟨by rfl, ?_⟩) (by assumption) ?_
  rotate_left
  · (intro wz hSw; (try dsimp only at hSw); go_simp <;> with_reducible rfl)
  try simp only [Act.put, List.setIfInBounds_toArray, List.set_cons_zero, List.set_cons_succ]
  refine wpAnyH_done (by kernel_rfl) ?_ _
  refine NoPanic.normal ?_
  go_wp2
  exact bodyPost_ret (res_item2 rfl _ rfl (lies_row hn9.2)) rfl ⟨a, nn, cap, rfl, HP.out, HI9.out, HB9.out⟩

/-- what Get tells -/
def GetPost (w : World) : Except Int (It × Nat × Nat) → Ending → World → Prop
  | .error c => fun e w' => e = .returned (.tuple #[itV it0 none 0 0, .int .i64 0, .int .i64 c]) ∧ Below w.heap.size w w'
  | .ok (x, n, _) => fun e w' => ∃ a nn cap, e = .returned (.tuple #[itV x a nn cap, .int .i64 n, .int .i64 0]) ∧ ItsIn w.heap.size w' x.xs a nn cap ∧ Below w.heap.size w w'

set_option maxRecDepth 100000 in
set_option maxHeartbeats 4000000 in
theorem get_any (s : ByteArray) (hsz : s.size ≤ 9223372036854775807) (w : World) : Calls Try.prog 17 #[.string s] w (GetPost w (readL s.data.toList 0 0)) := by
  have hC := (tells s.size s (Nat.le_refl _) hsz).1
  obtain ⟨f0, f1, f2, f3, f4, f5, f6⟩ := getW_facts s w
  have hE : Rg.Own ((getW s w).alloc (.cells #[.int .i64 0] 37)) (getW s w).heap.size #[.int .i64 0] 37 := Rg.Own.new _ _ _
  have hA := al1 (getW s w) (.cells #[.int .i64 0] 37)
  have g2 := f2.below hA
  have g3 := f3.below hA
  have g4 := f4.below hA
  have g5 := f5.below hA
  have g6 := f6.below hA
  have g1 := below_step' f1 hA
  have gs : ((getW s w).alloc (.cells #[.int .i64 0] 37)).heap.size = w.heap.size + 6 := by simp; omega
  cases hr : readL s.data.toList 0 0 with
  | error c =>
    refine (get_core s it0 0 c w (fun a nn cap => a = none ∧ nn = 0 ∧ cap = 0) ((caught_err 28 _ (by intro wx; kernel_rfl) (getW s w) c
      (fun w' => ((getW s w).alloc (.cells #[.int .i64 0] 37)).grownBy w' (some (w.heap.size + 2))) (by
        refine (getDo_err s hC c hr (w.heap.size + 2) w.heap.size (w.heap.size + 3) (w.heap.size + 4) _ (own_one g4) g2).mono ?_
        rintro e w' ⟨rfl, hg⟩
        exact ⟨rfl, own_one (own_gb hE hg (by omega)), hg⟩)).mono ?_)).mono ?_
    · rintro e w' ⟨rfl, w1, hg, rfl⟩
      exact ⟨rfl, none, 0, 0, own_set (own_gb g5 hg (by omega)) _ (by omega), own_set (own_gb g6 hg (by omega)) _ (by omega), own_set (own_gb g3 hg (by omega)) _ (by omega), ⟨rfl, rfl, rfl⟩, ItsIn.nil _ _,
        (gb_below g1 hg (Nat.le_refl _) (by omega)).setCell (p := ⟨(getW s w).heap.size, 0, none⟩) (by show w.heap.size ≤ (getW s w).heap.size; omega) _⟩
    · rintro e w' ⟨a, nn, cap, rfl, ⟨rfl, rfl, rfl⟩, _, hb⟩
      exact ⟨rfl, hb⟩
  | ok r =>
    obtain ⟨x, n, k'⟩ := r
    refine (get_core s x n 0 w (fun _ _ _ => True) ((caught_ok 28 _ (by intro wx; kernel_rfl) (getW s w)
      (fun w' => ∃ a nn cap, Rg.Own w' (w.heap.size + 3) (itC x a nn cap) 24 ∧ Rg.Own w' (w.heap.size + 4) #[.int .i64 n] 3 ∧ ItsIn (w.heap.size + 6) w' x.xs a nn cap ∧ Fr [w.heap.size + 2, w.heap.size + 3, w.heap.size + 4] ((getW s w).alloc (.cells #[.int .i64 0] 37)) w') (by
        refine (getDo_ok s hC x n k' hr (w.heap.size + 2) w.heap.size (w.heap.size + 3) (w.heap.size + 4) _ (own_one g4) g2 g5 g6 (by omega) (by omega) (by omega)).mono ?_
        rintro e w' ⟨rfl, a, nn, cap, e1, e2, e3, e4⟩
        rw [gs] at e3
        exact ⟨rfl, own_one (e4.own hE (by simp; omega)), a, nn, cap, e1, e2, e3, e4⟩)).mono ?_)).mono ?_
    · rintro e w' ⟨rfl, w1, ⟨a, nn, cap, e1, e2, e3, e4⟩, rfl⟩
      refine ⟨rfl, a, nn, cap, own_set e1 _ (by omega), own_set e2 _ (by omega), own_set (e4.own g3 (by simp)) _ (by omega), trivial, ?_, ?_⟩
      · refine ItsIn.weak (ItsIn.kept e3 (by simp) (fun b o hB _ => World.cell?_of_block (a := ⟨b, o, none⟩) (Below.heap_setCell w1 _ _ b (by show b ≠ (getW s w).heap.size; omega)))) (by omega)
      · exact (e4.below g1 (Nat.le_refl _) (by simp)).setCell (p := ⟨(getW s w).heap.size, 0, none⟩) (by show w.heap.size ≤ (getW s w).heap.size; omega) _
    · rintro e w' ⟨a, nn, cap, rfl, _, hI, hb⟩
      exact ⟨a, nn, cap, rfl, ItsIn.weak hI (by omega), hb⟩

end Rl
end Go.Proofs.Ytmnihiagkmdepaa
