/-
  Contracts of refs.Of, Root, of the function that is made of a reference, of Match.
-/
import Derived.Test.YtoeblhdddehemaaDoorMg25
import Derived.Deep.DeepCutAuto
namespace Go.Proofs.YtoeblhdddehemaaDoor
set_option maxRecDepth 20000
open Go.RowKit

namespace Rf
open Rl Ni No Sh Sm
theorem str_eq (a b : ByteArray) : (a.toList == b.toList) = decide (a = b) := by
  by_cases h : a = b
  · subst h; simp
  · rw [decide_eq_false h, beq_eq_false_iff_ne]
    intro e
    apply h
    rw [ByteArray.toList_eq, ByteArray.toList_eq] at e
    apply ByteArray.ext
    exact Array.ext' e
theorem cell_box (w : World) (v : Value) (t : TypeId) : (w.alloc (.cells #[v] t)).cell? ⟨w.heap.size, 0, none⟩ = some v := by
  have := Bu.cell_one_new' w v t (0, 0) 0 v rfl
  rwa [Addr.add_mid] at this
def ofP (s : ByteArray) : ByteArray := if s.size < 32 then s else ⟨(sumB s).toArray⟩
theorem sum_of (s : ByteArray) (hs : s.size ≤ 900000) (w : World) (hT : Tab w) : Calls Tryd.prog 26 #[.string s] w fun e w' => e = .returned (.agg (kc (sumB s))) ∧ Below w.heap.size w w' := Sm.of_any s hs w hT
theorem fof_any (s : ByteArray) (hs : s.size ≤ 900000) (w : World) (hT : Tab w) :
    Calls Tryd.prog 9 #[.string s] w fun e w' => e = .returned (.string (ofP s)) ∧ Below w.heap.size w w' := by
  by_cases h : s.size < 32
  · have HF : Hid (ofP s = s) := Lib.hid (by unfold ofP; rw [if_pos h])
    have hd : decide ((s.size : Int) < 32) = true := by simp; omega
    rw [HF.out]
    clear hT HF
    go_enter Tryd.func9, Tryd.ntmps9
    go_wp2
    go_ret
    exact ⟨rfl, Below.refl _ _⟩
  · have HF : Hid (ofP s = ⟨(sumB s).toArray⟩) := Lib.hid (by unfold ofP; rw [if_neg h])
    have hd : decide ((s.size : Int) < 32) = false := by simp; omega
    have HOf := Lib.hid (sum_of s hs w hT)
    have HTx := Lib.hid (fun W => Sm.text_any (sumB s) (sumB_length s) W)
    rw [HF.out]
    obtain ⟨K, hK⟩ : ∃ K, sumB s = K := ⟨_, rfl⟩
    rw [hK] at HOf HTx
    rw [hK]
    obtain ⟨T, hTT⟩ : ∃ T, (⟨K.toArray⟩ : ByteArray) = T := ⟨_, rfl⟩
    rw [hTT] at HTx
    rw [hTT]
    clear hT HF hK hTT
    go_enter Tryd.func9, Tryd.ntmps9
    go_wp2_with fail
    refine HOf.out.mono ?_
    rintro e w1 ⟨rfl, hb1⟩
    go_wp2_with fail
    refine (HTx.out _).mono ?_
    rintro e w2 ⟨rfl, hb2⟩
    go_wp2
    go_ret
    exact ⟨rfl, below_step' hb1 hb2⟩

def rootP (s : ByteArray) : List UInt8 := if s.size = 0 then sumB ⟨#[128]⟩ else sumB s
theorem rootP_length (s : ByteArray) : (rootP s).length = 32 := by unfold rootP; split <;> exact sumB_length _
set_option maxHeartbeats 2000000 in
theorem root_any (s : ByteArray) (hs : s.size ≤ 900000) (w : World) (hT : Tab w) :
    Calls Tryd.prog 10 #[.string s] w fun e w' => e = .returned (.agg (kc (rootP s))) ∧ Below w.heap.size w w' := by
  have h0 := hT.pos
  have HT := Lib.hid hT
  have HKl := Lib.hid (rootP_length s)
  by_cases h : s.size = 0
  · obtain rfl := size_zero h
    have HOf := Lib.hid (fun W (h : Tab W) => sum_of ⟨#[128]⟩ (by decide) W h)
    have hR : rootP eB = sumB ⟨#[128]⟩ := rfl
    rw [← hR] at HOf
    obtain ⟨K, hK⟩ : ∃ K, rootP eB = K := ⟨_, rfl⟩
    rw [hK] at HOf HKl
    rw [hK]
    clear hT hK hR h
    go_enter Tryd.func10, Tryd.ntmps10
    go_wp2_with (refine wpList_run rfl _ _ (run_alloc_sum _ _ rfl _ _ rfl) ?_)
    refine (HOf.out _ (HT.out.below (al1 _ _) h0)).mono ?_
    rintro e w1 ⟨rfl, hb1⟩
    have HO2 := Lib.hid ((Rg.Own.new w (kc zk) 28).below hb1)
    have HB2 : Hid (Below w.heap.size w w1) := Lib.hid (below_step' (al1 _ _) hb1)
    clear hb1
    go_wp2_with (refine wpList_store_rowTo rfl 28 _ _ rfl rfl _ (kc K) rfl rfl 28 (kc zk) HO2.out.2 (info_kc K HKl.out) (by rw [kc_size, kc_size, HKl.out]; rfl) (kc_one _) ?_)
    exact bodyPost_ret (results_cell_row rfl _ _ w.heap.size 28 (kc K) (0, 0) _ rfl (setRow_heap _ _ _ _ _ _ HO2.out.2) Tryd.underlying28 rfl (info_kc K HKl.out)) rfl ⟨rfl, Sm.below_row HB2.out (Nat.le_refl _) _⟩
  · have hne := Ni.not_empty (s := s) (by omega)
    have HOf := Lib.hid (fun W (h : Tab W) => sum_of s hs W h)
    have hR : rootP s = sumB s := by unfold rootP; rw [if_neg h]
    rw [← hR] at HOf
    obtain ⟨K, hK⟩ : ∃ K, rootP s = K := ⟨_, rfl⟩
    rw [hK] at HOf HKl
    rw [hK]
    clear hT hK hR h
    go_enter Tryd.func10, Tryd.ntmps10
    go_wp2_with (refine wpList_run rfl _ _ (run_alloc_sum _ _ rfl _ _ rfl) ?_)
    refine (HOf.out _ (HT.out.below (al1 _ _) h0)).mono ?_
    rintro e w1 ⟨rfl, hb1⟩
    have HO2 := Lib.hid ((Rg.Own.new w (kc zk) 28).below hb1)
    have HB2 : Hid (Below w.heap.size w w1) := Lib.hid (below_step' (al1 _ _) hb1)
    clear hb1
    go_wp2_with (refine wpList_store_rowTo rfl 28 _ _ rfl rfl _ (kc K) rfl rfl 28 (kc zk) HO2.out.2 (info_kc K HKl.out) (by rw [kc_size, kc_size, HKl.out]; rfl) (kc_one _) ?_)
    exact bodyPost_ret (results_cell_row rfl _ _ w.heap.size 28 (kc K) (0, 0) _ rfl (setRow_heap _ _ _ _ _ _ HO2.out.2) Tryd.underlying28 rfl (info_kc K HKl.out)) rfl ⟨rfl, Sm.below_row HB2.out (Nat.le_refl _) _⟩

theorem matcher_any (r : ByteArray) (w : World) :
    Calls Tryd.prog 24 #[.string r] w fun e w' => e = .returned (.func (Fn.func 39) #[] #[.pointer (some ⟨w.heap.size, 0, none⟩)]) ∧ w' = w.alloc (.cells #[.string r] 9) := by
  go_enter Tryd.func24, Tryd.ntmps24
  go_wp2
  go_ret
  exact ⟨rfl, rfl⟩
/-- is a reference a text's? -/
def matchB (r s : ByteArray) : Bool := decide (s.size ≠ 0) && decide (ofP s = r)
set_option maxHeartbeats 2000000 in
theorem match1_any (c : Nat) (r s : ByteArray) (hs : s.size ≤ 900000) (w : World) (hT : Tab w) (hc : w.cell? ⟨c, 0, none⟩ = some (.string r)) :
    Calls Tryd.prog 39 #[.string s, .pointer (some ⟨c, 0, none⟩)] w fun e w' => e = .returned (.bool (matchB r s)) ∧ Below w.heap.size w w' := by
  have h0 := hT.pos
  have HT := Lib.hid hT
  have hclt := World.block_lt_of_cell? w _ hc
  by_cases h : s.size = 0
  · obtain rfl := size_zero h
    have HF : Hid (matchB r eB = false) := Lib.hid rfl
    rw [HF.out]
    clear HT hT h HF hs
    go_enter Tryd.func39, Tryd.ntmps39
    go_wp2
    go_quiet (fail)
    go_wp2
    go_ret
    exact ⟨rfl, below_drewN (Below.refl _ _) _⟩
  have hne := Ni.not_empty (s := s) (by omega)
  have HOf := Lib.hid (fun W (h : Tab W) => fof_any s hs W h)
  have HF : Hid (matchB r s = decide (ofP s = r)) := Lib.hid (by unfold matchB; simp [h])
  obtain ⟨T, hTT⟩ : ∃ T, ofP s = T := ⟨_, rfl⟩
  rw [hTT] at HOf HF
  clear hTT hT h
  go_enter Tryd.func39, Tryd.ntmps39
  go_wp2_with fail
  refine wp_region_noPanic ?_
  refine wp_region_held_drew (S := fun w' => Below w.heap.size w w') (by kernel_rfl) ((Below.refl _ _).drew) (fun hHeld => ?_)
  refine Rg.takeL (i := 0) (v := ?_) rfl (by kernel_rfl) (by kernel_rfl) (by kernel_rfl) (fun _ _ _ h => h) (Or.inl ⟨by rfl, ?_⟩) (by assumption) ?_
  rotate_left
  · (intro wz hSw; (try dsimp only at hSw); go_simp <;> with_reducible rfl)
  try simp only [Act.put, List.setIfInBounds_toArray, List.set_cons_zero, List.set_cons_succ]
  refine Rg.takeL (i := 1) (v := ?_) rfl (by kernel_rfl) (by kernel_rfl) (by kernel_rfl) (fun _ _ _ h => h) (Or.inl ⟨by rfl, ?_⟩) (by assumption) ?_
  rotate_left
  · (intro wz hSw; (try dsimp only at hSw); go_simp <;> with_reducible rfl)
  try simp only [Act.put, List.setIfInBounds_toArray, List.set_cons_zero, List.set_cons_succ]
  refine Rg.takeL (i := 2) (v := ?_) rfl (by kernel_rfl) (by kernel_rfl) (by kernel_rfl) (fun _ _ _ h => h) (Or.inl ⟨by rfl, ?_⟩) (by assumption) ?_
  rotate_left
  · (intro wz hSw; (try dsimp only at hSw); go_simp <;> with_reducible rfl)
  try simp only [Act.put, List.setIfInBounds_toArray, List.set_cons_zero, List.set_cons_succ]
  refine Rg.takeL (i := 3) (v := ?_) rfl (by kernel_rfl) (by kernel_rfl) (by kernel_rfl) (fun _ _ _ h => h) (Or.inl ⟨by rfl, ?_⟩) (by assumption) ?_
  rotate_left
  · (intro wz hSw; (try dsimp only at hSw); go_simp <;> with_reducible rfl)
  try simp only [Act.put, List.setIfInBounds_toArray, List.set_cons_zero, List.set_cons_succ]
  refine Rg.takeL (i := 5) (v := ?_) rfl (by kernel_rfl) (by kernel_rfl) (by kernel_rfl) (fun _ _ _ h => h) (Or.inl ⟨by rfl, ?_⟩) (by assumption) ?_
  rotate_left
  · (intro wz hSw; have hcc := (hSw.cell (p := ⟨c, 0, none⟩) hclt).trans hc; (try dsimp only at hSw); go_simp <;> with_reducible rfl)
  try simp only [Act.put, List.setIfInBounds_toArray, List.set_cons_zero, List.set_cons_succ]
  refine wpAnyH_ready (rs := [4]) (by kernel_rfl) (by simp) ?_
  refine Rg.readyL (i := 4) rfl (fun K hK => ?_)
  go_simp
  go_at_call 9
  (with_reducible refine (HOf.out _ (HT.out.below hHeld h0)).mono ?_)
  rintro e wv0 ⟨rfl, hbx⟩
  refine hK.out _ _ ?_ (fun hHeld => ?_)
  · exact Below.trans hHeld (hbx.mono hHeld.size)
  clear hK K
  try simp only [Act.put, List.setIfInBounds_toArray, List.set_cons_zero, List.set_cons_succ]
  refine Rg.takeL (i := 6) (v := ?_) rfl (by kernel_rfl) (by kernel_rfl) (by kernel_rfl) (fun _ _ _ h => h) (Or.inl ⟨by rfl, ?_⟩) (by assumption) ?_
  rotate_left
  · (intro wz hSw; (try dsimp only at hSw); go_simp <;> with_reducible rfl)
  try simp only [Act.put, List.setIfInBounds_toArray, List.set_cons_zero, List.set_cons_succ]
  refine Rg.takeL (i := 7) (v := ?_) rfl (by kernel_rfl) (by kernel_rfl) (by kernel_rfl) (fun _ _ _ h => h) (Or.inl ⟨by rfl, ?_⟩) (by assumption) ?_
  rotate_left
  · (intro wz hSw; (try dsimp only at hSw); go_simp <;> with_reducible rfl)
  try simp only [Act.put, List.setIfInBounds_toArray, List.set_cons_zero, List.set_cons_succ]
  refine Rg.takeL (i := 8) (v := ?_) rfl (by kernel_rfl) (by kernel_rfl) (by kernel_rfl) (fun _ _ _ h => h) (Or.inl ⟨by rfl, ?_⟩) (by assumption) ?_
  rotate_left
  · (intro wz hSw; (try dsimp only at hSw); go_simp <;> with_reducible rfl)
  try simp only [Act.put, List.setIfInBounds_toArray, List.set_cons_zero, List.set_cons_succ]
  refine wpAnyH_done (by kernel_rfl) ?_ _
  refine NoPanic.normal ?_
  go_wp2
  go_ret
  exact ⟨by rw [HF.out, ← str_eq]; rfl, hHeld⟩

theorem fmatch_any (r s : ByteArray) (hs : s.size ≤ 900000) (w : World) (hT : Tab w) :
    Calls Tryd.prog 12 #[.string r, .string s] w fun e w' => e = .returned (.bool (matchB r s)) ∧ Below w.heap.size w w' := by
  have h0 := hT.pos
  have HM := Lib.hid (matcher_any r w)
  have H1 := Lib.hid (match1_any w.heap.size r s hs (w.alloc (.cells #[.string r] 9)) (hT.below (al1 _ _) h0) (cell_box _ _ _))
  obtain ⟨F, hF⟩ : ∃ F, matchB r s = F := ⟨_, rfl⟩
  rw [hF] at H1 ⊢
  clear hF hT hs
  go_enter Tryd.func12, Tryd.ntmps12
  go_wp2_with fail
  refine HM.out.mono ?_
  rintro e w1 ⟨rfl, rfl⟩
  go_wp2_with fail
  refine H1.out.mono ?_
  rintro e w2 ⟨rfl, hb2⟩
  go_wp2
  go_ret
  exact ⟨rfl, below_step' (al1 _ _) hb2⟩
end Rf
end Go.Proofs.YtoeblhdddehemaaDoor

/-
  Contracts of slices.IndexFunc over what is made of a reference, and of refs.Find.
-/
namespace Go.Proofs.YtoeblhdddehemaaDoor
set_option maxRecDepth 20000
open Go.RowKit

namespace Rf
open Rl Ni No Sh Sm
/-- the first text that a reference is of; -1 if there is none -/
def AtOk (r : ByteArray) (xs : List ByteArray) (i : Int) : Prop :=
  (i = -1 ∧ ∀ j, j < xs.length → matchB r (xs.getD j eB) = false) ∨
    ∃ k : Nat, i = k ∧ k < xs.length ∧ matchB r (xs.getD k eB) = true ∧ ∀ j, j < k → matchB r (xs.getD j eB) = false
theorem AtOk.one {r : ByteArray} {xs : List ByteArray} {i k : Int} (h : AtOk r xs i) (g : AtOk r xs k) : i = k := by
  rcases h with ⟨rfl, h⟩ | ⟨a, rfl, h1, h2, h3⟩
  · rcases g with ⟨rfl, _⟩ | ⟨b, rfl, g1, g2, _⟩
    · rfl
    · rw [h b g1] at g2; cases g2
  · rcases g with ⟨rfl, g⟩ | ⟨b, rfl, g1, g2, g3⟩
    · rw [g a h1] at h2; cases h2
    · rcases Nat.lt_trichotomy a b with hl | he | hl
      · rw [g3 a hl] at h2; cases h2
      · rw [he]
      · rw [h3 b hl] at g2; cases g2
set_option maxHeartbeats 4000000 in
theorem find_index (c : Nat) (r : ByteArray) (xs : List ByteArray) (hx : ∀ k ∈ xs, k.size ≤ 900000) (a : Option Addr) (n cap : Nat) (w : World) (h : IsSt w a n cap xs) (hT : Tab w) (hc : w.cell? ⟨c, 0, none⟩ = some (.string r)) :
    Calls Tryd.prog 23 #[.slice a n cap, .func (Fn.func 39) #[] #[.pointer (some ⟨c, 0, none⟩)]] w fun e w' => ∃ i : Int, e = .returned (.int .i64 i) ∧ AtOk r xs i ∧ Below w.heap.size w w' := by
  have hm := h.2.1
  have hnc := h.1
  have hl := h.len
  have h0 := hT.pos
  have hclt := World.block_lt_of_cell? w _ hc
  unfold maxLen at hm
  have H := Lib.hid h
  have HL := Lib.hid hl
  have HX := Lib.hid hx
  have HT := Lib.hid hT
  have HC := Lib.hid hc
  clear h hl hx hT hc
  go_enter Tryd.func23, Tryd.ntmps23
  go_wp2
  go_loopw [8] (fun i wr => ∃ j : Nat, j ≤ n ∧ i = .int .i64 j ∧ Hid (∀ q, q < j → matchB r (xs.getD q eB) = false) ∧ Hid (Below w.heap.size w wr)) (fun i _ => n - (intOf i).toNat)
  case atStart => exact ⟨0, Nat.zero_le _, rfl, Lib.hid (fun q hq => absurd hq (Nat.not_lt_zero _)), Lib.hid (Below.refl _ _)⟩
  case round =>
    obtain ⟨j, hj, rfl, HJ, HB⟩ := hrel
    by_cases hlt : j < n
    · obtain ⟨b, off, rfl, hblt, hcj⟩ := H.out.at' j hlt
      have hc' := (Below.cell (p := ⟨b, off + j, none⟩) HB.out hblt).trans hcj
      have HM : Hid (j < xs.length) := Lib.hid (by rw [HL.out]; exact hlt)
      have H1 := Lib.hid (match1_any c r (xs.getD j eB) (HX.out _ (getD_mem HM.out)) wr (HT.out.below HB.out h0) ((Below.cell (p := ⟨c, 0, none⟩) HB.out hclt).trans HC.out))
      obtain ⟨F, hF⟩ : ∃ F, matchB r (xs.getD j eB) = F := ⟨_, rfl⟩
      rw [hF] at H1
      have HF := Lib.hid hF
      obtain ⟨K, hK⟩ : ∃ K, xs.getD j eB = K := ⟨_, rfl⟩
      rw [hK] at H1 hc'
      clear hK hcj hF
      go_wp2_with fail
      refine H1.out.mono ?_
      rintro e w5 ⟨rfl, hb5⟩
      have HB5 := Lib.hid (below_step' HB.out hb5)
      clear hb5 H1 HB hc'
      cases F with
      | false =>
        have HJ' : Hid (∀ q, q < j + 1 → matchB r (xs.getD q eB) = false) := Lib.hid (fun q hq => by
          by_cases e : q = j
          · rw [e]; exact HF.out
          · exact HJ.out q (by omega))
        clear HF
        go_wp2
        go_roundw
        case rel => exact ⟨j + 1, by omega, by go_num, HJ', HB5⟩
        case measure => simp [intOf]; omega
      | true =>
        go_wp2
        go_ret
        exact ⟨(j : Int), rfl, .inr ⟨j, rfl, HM.out, HF.out, HJ.out⟩, HB5.out⟩
    · obtain rfl : j = n := by omega
      go_wp2
      go_ret
      exact ⟨-1, rfl, .inl ⟨rfl, by rw [HL.out]; exact HJ.out⟩, HB.out⟩

/-- what Find tells -/
def findV (xs : List ByteArray) (i : Int) : Value := .tuple #[.string (if i < 0 then eB else xs.getD i.toNat eB), .bool (decide (0 ≤ i))]
set_option maxHeartbeats 4000000 in
theorem find_any (r : ByteArray) (xs : List ByteArray) (hx : ∀ k ∈ xs, k.size ≤ 900000) (a : Option Addr) (n cap : Nat) (w : World) (h : IsSt w a n cap xs) (hT : Tab w) :
    Calls Tryd.prog 8 #[.string r, .slice a n cap] w fun e w' => ∃ i : Int, e = .returned (findV xs i) ∧ AtOk r xs i ∧ Below w.heap.size w w' := by
  have h0 := hT.pos
  have hm := h.2.1
  have hnc := h.1
  unfold maxLen at hm
  have HM := Lib.hid (matcher_any r w)
  have HI := Lib.hid (find_index w.heap.size r xs hx a n cap (w.alloc (.cells #[.string r] 9)) (h.below (al1 _ _)) (hT.below (al1 _ _) h0) (cell_box _ _ _))
  have H := Lib.hid h
  have HL := Lib.hid h.len
  clear h hT hx
  go_enter Tryd.func8, Tryd.ntmps8
  go_wp2_with fail
  refine HM.out.mono ?_
  rintro e w1 ⟨rfl, rfl⟩
  go_wp2_with fail
  refine HI.out.mono ?_
  rintro e w2 ⟨i, rfl, hi, hb2⟩
  have HB := Lib.hid (below_step' (al1 _ _) hb2)
  have HA := Lib.hid hi
  clear hb2 HI HM
  rcases hi with ⟨rfl, _⟩ | ⟨k, rfl, h1, _, _⟩
  · go_wp2
    go_ret2
    exact ⟨-1, rfl, HA.out, HB.out⟩
  · have hk : k < n := by rw [← HL.out]; exact h1
    obtain ⟨b, off, rfl, hblt, hcj⟩ := H.out.at' k hk
    have hc' := (Below.cell (p := ⟨b, off + k, none⟩) HB.out hblt).trans hcj
    have HV : Hid (findV xs (k : Int) = .tuple #[.string (xs.getD k eB), .bool true]) := Lib.hid (by
      unfold findV
      rw [if_neg (by omega), Int.toNat_natCast, decide_eq_true (by omega)])
    obtain ⟨X, hX⟩ : ∃ X, xs.getD k eB = X := ⟨_, rfl⟩
    rw [hX] at hc' HV
    clear hcj h1 hX
    go_wp2
    go_ret2
    exact ⟨(k : Int), by rw [HV.out]; rfl, HA.out, HB.out⟩
end Rf
end Go.Proofs.YtoeblhdddehemaaDoor
