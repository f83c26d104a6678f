/-
  The contract of the plain answer's Same.
-/
import Derived.Test.YtmnihiagkmdepaaRb
import Derived.Test.YtmnihiagkmdepaaRegion
namespace Go.Proofs.Ytmnihiagkmdepaa
open Go.RowKit

namespace Rl
set_option maxHeartbeats 4000000 in
theorem rsame_any (x : It) : Tells 11 x := by
  induction x using It.ind with
  | h l s xs ih =>
    rintro ⟨l', s', ys⟩ w u v ⟨a, n, cap, rfl, hx⟩ ⟨b, m, d, rfl, hy⟩
    have hm := hx.max
    have hnc := hx.le
    have hm2 := hy.max
    have hnc2 := hy.le
    unfold maxLen at hm hm2
    have H1 := Lib.hid hx
    have H2 := Lib.hid hy
    dsimp only [It.l, It.s, It.xs] at *
    clear hx hy
    unfold itV
    dsimp only [It.l, It.s, It.xs] at *
    by_cases hl : l = l'
    · by_cases hs : s = s'
      · by_cases hnm : n = m
        · subst hnm
          subst hl
          subst hs
          have HQ : Hid (xs = ys → It.mk l s xs = It.mk l s ys) := Lib.hid (fun e => by subst e; rfl)
          have HN : Hid (xs ≠ ys → It.mk l s xs ≠ It.mk l s ys) := Lib.hid (fun e => it_ne (.inr (.inr e)))
          go_enter Try.func11, Try.ntmps11
          go_wp2
          go_loopw [5] (fun i wr => ∃ (q : Nat), q ≤ n ∧ i = .int .i64 q ∧ Hid (xs.take q = ys.take q) ∧ Below (w.heap.size + 2) ((w.alloc (.cells #[.bool l, .string s, .slice a n cap] 24)).alloc (.cells #[.bool l, .string s, .slice b n d] 24)) wr) (fun i _ => n - (intOf i).toNat)
          case atStart => exact ⟨0, Nat.zero_le _, rfl, Lib.hid rfl, Below.refl _ _⟩
          case round =>
            obtain ⟨q, hq, rfl, HK, hB⟩ := hrel
            have c2 : wr.cell? ⟨w.heap.size, 2, none⟩ = some (.slice a n cap) := by
              rw [hB.cell (p := ⟨w.heap.size, 2, none⟩) (show w.heap.size < w.heap.size + 2 by omega)]
              simp
            have d2 : wr.cell? ⟨w.heap.size + 1, 2, none⟩ = some (.slice b n d) := by
              rw [hB.cell (p := ⟨w.heap.size + 1, 2, none⟩) (show w.heap.size + 1 < w.heap.size + 2 by omega)]
              simp
            have HB := Lib.hid hB
            have HBw := Lib.hid (show Below w.heap.size w wr from (al2 _ _ _).trans (hB.mono (by omega)))
            clear hB
            by_cases hlt : q < n
            · obtain ⟨x, b1, off, A, N, C, hx, rfl, hb, hL, hI⟩ := H1.out.at' q hlt
              obtain ⟨y, b2, off2, A2, N2, C2, hy, rfl, hb2, hL2, hI2⟩ := H2.out.at' q hlt
              have hBw := HBw.out
              have HI := Lib.hid (fun w1 (hw : Below wr.heap.size wr w1) => ih x (List.mem_of_getElem? hx) y w1 _ _ ⟨A, N, C, rfl, hI.stays (below_step' hBw hw)⟩ ⟨A2, N2, C2, rfl, hI2.stays (below_step' hBw hw)⟩)
              have hltx : b1 < wr.heap.size := Nat.lt_of_lt_of_le hb hBw.size
              have hlty : b2 < wr.heap.size := Nat.lt_of_lt_of_le hb2 hBw.size
              have HL := Lib.hid (hL.stays hBw hb)
              have HL2 := Lib.hid (hL2.stays hBw hb2)
              have HC := Lib.hid (fun wz (hw : Below wr.heap.size wr wz) => (hw.cell (p := ⟨w.heap.size, 2, none⟩) (by have := al_size2 HB.out; show w.heap.size < wr.heap.size; omega)).trans c2)
              have HD := Lib.hid (fun wz (hw : Below wr.heap.size wr wz) => (hw.cell (p := ⟨w.heap.size + 1, 2, none⟩) (by have := al_size2 HB.out; show w.heap.size + 1 < wr.heap.size; omega)).trans d2)
              unfold itV at HI
              clear hL hI hL2 hI2 hBw ih
              by_cases hxy : x = y
              · have HT := Lib.hid (take_eq xs ys q x hx (by rw [hy, hxy]) HK.out)
                rw [sameB_true hxy] at HI
                clear hx hy hxy
                go_wp2_with fail
                refine wp_region_noPanic ?_
                refine wp_region_held_drew (S := fun w' => Below wr.heap.size wr w') (by kernel_rfl) ((Below.refl _ _).drew) (fun hHeld => ?_)
                refine Rg.takeL (i := 0) (v := ?_) rfl (by kernel_rfl) (by kernel_rfl) (by kernel_rfl) (fun _ _ _ h => h) (Or.inl ⟨by rfl, ?_⟩) (by assumption) ?_
                rotate_left
                · (intro wz hSw; (try dsimp only at hSw); go_simp <;> with_reducible rfl)
                try simp only [Act.put, List.setIfInBounds_toArray, List.set_cons_zero, List.set_cons_succ]
                refine Rg.takeL (i := 1) (v := ?_) rfl (by kernel_rfl) (by kernel_rfl) (by kernel_rfl) (fun _ _ _ h => h) (Or.inl ⟨by rfl, ?_⟩) (by assumption) ?_
                rotate_left
                · (intro wz hSw; have z := HC.out wz hSw; go_simp <;> with_reducible rfl)
                try simp only [Act.put, List.setIfInBounds_toArray, List.set_cons_zero, List.set_cons_succ]
                refine Rg.takeL (i := 2) (v := ?_) rfl (by kernel_rfl) (by kernel_rfl) (by kernel_rfl) (fun _ _ _ h => h) (Or.inl ⟨by rfl, ?_⟩) (by assumption) ?_
                rotate_left
                · (intro wz hSw; (try dsimp only at hSw); go_simp <;> with_reducible rfl)
                try simp only [Act.put, List.setIfInBounds_toArray, List.set_cons_zero, List.set_cons_succ]
                refine Rg.takeL (i := 3) (v := ?_) rfl (by kernel_rfl) (by kernel_rfl) (by kernel_rfl) (fun _ _ _ h => h) (Or.inl ⟨by rfl, ?_⟩) (by assumption) ?_
                rotate_left
                · (intro wz hSw; (try dsimp only at hSw); go_simp <;> with_reducible rfl)
                try simp only [Act.put, List.setIfInBounds_toArray, List.set_cons_zero, List.set_cons_succ]
                refine Rg.takeL (i := 4) (v := ?_) rfl (by kernel_rfl) (by kernel_rfl) (by kernel_rfl) (fun _ _ _ h => h) (Or.inl ⟨by rfl, ?_⟩) (by assumption) ?_
                rotate_left
                · (intro wz hSw; obtain ⟨z0, z1, z2⟩ := HL.out.stays hSw hltx; go_simp <;> with_reducible rfl)
                try simp only [Act.put, List.setIfInBounds_toArray, List.set_cons_zero, List.set_cons_succ]
                refine Rg.takeL (i := 5) (v := ?_) rfl (by kernel_rfl) (by kernel_rfl) (by kernel_rfl) (fun _ _ _ h => h) (Or.inl ⟨by rfl, ?_⟩) (by assumption) ?_
                rotate_left
                · (intro wz hSw; (try dsimp only at hSw); go_simp <;> with_reducible rfl)
                try simp only [Act.put, List.setIfInBounds_toArray, List.set_cons_zero, List.set_cons_succ]
                refine Rg.takeL (i := 6) (v := ?_) rfl (by kernel_rfl) (by kernel_rfl) (by kernel_rfl) (fun _ _ _ h => h) (Or.inl ⟨by rfl, ?_⟩) (by assumption) ?_
                rotate_left
                · (intro wz hSw; have z := HD.out wz hSw; go_simp <;> with_reducible rfl)
                try simp only [Act.put, List.setIfInBounds_toArray, List.set_cons_zero, List.set_cons_succ]
                refine Rg.takeL (i := 7) (v := ?_) rfl (by kernel_rfl) (by kernel_rfl) (by kernel_rfl) (fun _ _ _ h => h) (Or.inl ⟨by rfl, ?_⟩) (by assumption) ?_
                rotate_left
                · (intro wz hSw; (try dsimp only at hSw); go_simp <;> with_reducible rfl)
                try simp only [Act.put, List.setIfInBounds_toArray, List.set_cons_zero, List.set_cons_succ]
                refine Rg.takeL (i := 8) (v := ?_) rfl (by kernel_rfl) (by kernel_rfl) (by kernel_rfl) (fun _ _ _ h => h) (Or.inl ⟨by rfl, ?_⟩) (by assumption) ?_
                rotate_left
                · (intro wz hSw; (try dsimp only at hSw); go_simp <;> with_reducible rfl)
                try simp only [Act.put, List.setIfInBounds_toArray, List.set_cons_zero, List.set_cons_succ]
                refine Rg.takeL (i := 9) (v := ?_) rfl (by kernel_rfl) (by kernel_rfl) (by kernel_rfl) (fun _ _ _ h => h) (Or.inl ⟨by rfl, ?_⟩) (by assumption) ?_
                rotate_left
                · (intro wz hSw; obtain ⟨z0, z1, z2⟩ := HL2.out.stays hSw hlty; go_simp <;> with_reducible rfl)
                try simp only [Act.put, List.setIfInBounds_toArray, List.set_cons_zero, List.set_cons_succ]
                refine wpAnyH_ready (rs := [10]) (by kernel_rfl) (by simp) ?_
                refine Rg.readyL (i := 10) rfl (fun K hK => ?_)
                go_simp
                go_at_call 11
                (with_reducible refine (HI.out _ hHeld).mono ?_)
                rintro e wv0 ⟨rfl, hbx⟩
                refine hK.out _ _ ?_ (fun hHeld => ?_)
                · exact Below.trans hHeld (hbx.mono hHeld.size)
                clear hK K
                try simp only [Act.put, List.setIfInBounds_toArray, List.set_cons_zero, List.set_cons_succ]
                refine Rg.takeL (i := 11) (v := ?_) rfl (by kernel_rfl) (by kernel_rfl) (by kernel_rfl) (fun _ _ _ h => h) (Or.inl ⟨by rfl, ?_⟩) (by assumption) ?_
                rotate_left
                · (intro wz hSw; (try dsimp only at hSw); go_simp <;> with_reducible rfl)
                try simp only [Act.put, List.setIfInBounds_toArray, List.set_cons_zero, List.set_cons_succ]
                refine wpAnyH_done (by kernel_rfl) ?_ _
                refine NoPanic.normal ?_
                go_wp2
                go_roundw
                case rel => exact ⟨q + 1, by omega, by go_num, Lib.hid HT.out, HB.out.trans (hHeld.mono (al_size2 HB.out))⟩
                case measure => simp [intOf]; omega
              · have HT := Lib.hid (differ xs ys q x y hx hy hxy)
                rw [sameB_false hxy] at HI
                clear hx hy hxy
                go_wp2_with fail
                refine wp_region_noPanic ?_
                refine wp_region_held_drew (S := fun w' => Below wr.heap.size wr w') (by kernel_rfl) ((Below.refl _ _).drew) (fun hHeld => ?_)
                refine Rg.takeL (i := 0) (v := ?_) rfl (by kernel_rfl) (by kernel_rfl) (by kernel_rfl) (fun _ _ _ h => h) (Or.inl ⟨by rfl, ?_⟩) (by assumption) ?_
                rotate_left
                · (intro wz hSw; (try dsimp only at hSw); go_simp <;> with_reducible rfl)
                try simp only [Act.put, List.setIfInBounds_toArray, List.set_cons_zero, List.set_cons_succ]
                refine Rg.takeL (i := 1) (v := ?_) rfl (by kernel_rfl) (by kernel_rfl) (by kernel_rfl) (fun _ _ _ h => h) (Or.inl ⟨by rfl, ?_⟩) (by assumption) ?_
                rotate_left
                · (intro wz hSw; have z := HC.out wz hSw; go_simp <;> with_reducible rfl)
                try simp only [Act.put, List.setIfInBounds_toArray, List.set_cons_zero, List.set_cons_succ]
                refine Rg.takeL (i := 2) (v := ?_) rfl (by kernel_rfl) (by kernel_rfl) (by kernel_rfl) (fun _ _ _ h => h) (Or.inl ⟨by rfl, ?_⟩) (by assumption) ?_
                rotate_left
                · (intro wz hSw; (try dsimp only at hSw); go_simp <;> with_reducible rfl)
                try simp only [Act.put, List.setIfInBounds_toArray, List.set_cons_zero, List.set_cons_succ]
                refine Rg.takeL (i := 3) (v := ?_) rfl (by kernel_rfl) (by kernel_rfl) (by kernel_rfl) (fun _ _ _ h => h) (Or.inl ⟨by rfl, ?_⟩) (by assumption) ?_
                rotate_left
                · (intro wz hSw; (try dsimp only at hSw); go_simp <;> with_reducible rfl)
                try simp only [Act.put, List.setIfInBounds_toArray, List.set_cons_zero, List.set_cons_succ]
                refine Rg.takeL (i := 4) (v := ?_) rfl (by kernel_rfl) (by kernel_rfl) (by kernel_rfl) (fun _ _ _ h => h) (Or.inl ⟨by rfl, ?_⟩) (by assumption) ?_
                rotate_left
                · (intro wz hSw; obtain ⟨z0, z1, z2⟩ := HL.out.stays hSw hltx; go_simp <;> with_reducible rfl)
                try simp only [Act.put, List.setIfInBounds_toArray, List.set_cons_zero, List.set_cons_succ]
                refine Rg.takeL (i := 5) (v := ?_) rfl (by kernel_rfl) (by kernel_rfl) (by kernel_rfl) (fun _ _ _ h => h) (Or.inl ⟨by rfl, ?_⟩) (by assumption) ?_
                rotate_left
                · (intro wz hSw; (try dsimp only at hSw); go_simp <;> with_reducible rfl)
                try simp only [Act.put, List.setIfInBounds_toArray, List.set_cons_zero, List.set_cons_succ]
                refine Rg.takeL (i := 6) (v := ?_) rfl (by kernel_rfl) (by kernel_rfl) (by kernel_rfl) (fun _ _ _ h => h) (Or.inl ⟨by rfl, ?_⟩) (by assumption) ?_
                rotate_left
                · (intro wz hSw; have z := HD.out wz hSw; go_simp <;> with_reducible rfl)
                try simp only [Act.put, List.setIfInBounds_toArray, List.set_cons_zero, List.set_cons_succ]
                refine Rg.takeL (i := 7) (v := ?_) rfl (by kernel_rfl) (by kernel_rfl) (by kernel_rfl) (fun _ _ _ h => h) (Or.inl ⟨by rfl, ?_⟩) (by assumption) ?_
                rotate_left
                · (intro wz hSw; (try dsimp only at hSw); go_simp <;> with_reducible rfl)
                try simp only [Act.put, List.setIfInBounds_toArray, List.set_cons_zero, List.set_cons_succ]
                refine Rg.takeL (i := 8) (v := ?_) rfl (by kernel_rfl) (by kernel_rfl) (by kernel_rfl) (fun _ _ _ h => h) (Or.inl ⟨by rfl, ?_⟩) (by assumption) ?_
                rotate_left
                · (intro wz hSw; (try dsimp only at hSw); go_simp <;> with_reducible rfl)
                try simp only [Act.put, List.setIfInBounds_toArray, List.set_cons_zero, List.set_cons_succ]
                refine Rg.takeL (i := 9) (v := ?_) rfl (by kernel_rfl) (by kernel_rfl) (by kernel_rfl) (fun _ _ _ h => h) (Or.inl ⟨by rfl, ?_⟩) (by assumption) ?_
                rotate_left
                · (intro wz hSw; obtain ⟨z0, z1, z2⟩ := HL2.out.stays hSw hlty; go_simp <;> with_reducible rfl)
                try simp only [Act.put, List.setIfInBounds_toArray, List.set_cons_zero, List.set_cons_succ]
                refine wpAnyH_ready (rs := [10]) (by kernel_rfl) (by simp) ?_
                refine Rg.readyL (i := 10) rfl (fun K hK => ?_)
                go_simp
                go_at_call 11
                (with_reducible refine (HI.out _ hHeld).mono ?_)
                rintro e wv0 ⟨rfl, hbx⟩
                refine hK.out _ _ ?_ (fun hHeld => ?_)
                · exact Below.trans hHeld (hbx.mono hHeld.size)
                clear hK K
                try simp only [Act.put, List.setIfInBounds_toArray, List.set_cons_zero, List.set_cons_succ]
                refine Rg.takeL (i := 11) (v := ?_) rfl (by kernel_rfl) (by kernel_rfl) (by kernel_rfl) (fun _ _ _ h => h) (Or.inl ⟨by rfl, ?_⟩) (by assumption) ?_
                rotate_left
                · (intro wz hSw; (try dsimp only at hSw); go_simp <;> with_reducible rfl)
                try simp only [Act.put, List.setIfInBounds_toArray, List.set_cons_zero, List.set_cons_succ]
                refine wpAnyH_done (by kernel_rfl) ?_ _
                refine NoPanic.normal ?_
                go_wp2
                go_ret
                exact ⟨by rw [sameB_false (HN.out HT.out)]; rfl, below_step' HBw.out hHeld⟩
            · obtain rfl : q = n := by omega
              have HE : Hid (xs = ys) := Lib.hid (by
                have := HK.out
                rwa [List.take_of_length_le (Nat.le_of_eq H1.out.len), List.take_of_length_le (Nat.le_of_eq H2.out.len)] at this)
              clear ih
              go_wp2
              go_ret
              exact ⟨by rw [sameB_true (HQ.out HE.out)]; rfl, HBw.out⟩
        · have HS : Hid (It.mk l s xs ≠ It.mk l' s' ys) := Lib.hid (it_ne (.inr (.inr (by
            rintro rfl
            exact hnm (H1.out.len.symm.trans H2.out.len)))))
          have hd : ((n : Int) != (m : Int)) = true := by simp; omega
          clear ih
          go_enter Try.func11, Try.ntmps11
          go_wp2
          go_ret
          exact ⟨by rw [sameB_false HS.out]; rfl, al2 _ _ _⟩
      · have HS : Hid (It.mk l s xs ≠ It.mk l' s' ys) := Lib.hid (it_ne (.inr (.inl hs)))
        have hne := text_ne hs
        have hne' : (s.toList != s'.toList) = true := by rw [bne, hne]; rfl
        clear ih
        go_enter Try.func11, Try.ntmps11
        go_wp2
        go_ret
        exact ⟨by rw [sameB_false HS.out]; rfl, al2 _ _ _⟩
    · have HS : Hid (It.mk l s xs ≠ It.mk l' s' ys) := Lib.hid (it_ne (.inl hl))
      clear ih
      go_enter Try.func11, Try.ntmps11
      go_wp2
      go_ret
      exact ⟨by rw [sameB_false HS.out]; rfl, al2 _ _ _⟩
end Rl
end Go.Proofs.Ytmnihiagkmdepaa
