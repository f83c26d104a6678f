/-
  The contract of rlp.lay: an item's bytes go into a builder.
-/
import Derived.Test.YtmnihiagkmdepaaRk
import Derived.Test.YtmnihiagkmdepaaBuilder
import Derived.Test.YtmnihiagkmdepaaRegion
namespace Go.Proofs.Ytmnihiagkmdepaa
open Go.RowKit

namespace Rl
theorem own_others {w w' : World} {b g : Nat} {cs : Array Value} (h : Rg.Own w b cs 24) (hk : Lib.OthersKept 5 (some g) w w') (hne : b ≠ g) : Rg.Own w' b cs 24 := by
  have h1 := hk b _ h.2 (fun e => hne (Option.some.inj e)) (fun c fz e => by cases e)
  exact ⟨(Array.getElem?_eq_some_iff.1 h1).1, h1⟩

set_option maxRecDepth 100000 in
set_option maxHeartbeats 8000000 in
theorem lay_any (x : It) : ∀ (around g : Nat) (w0 w : World) (v : Value) (bs : List UInt8), IsIt w0 x v → Below w0.heap.size w0 w → Fits around x → bs.length + x.bytes.length ≤ 1099511627776 → Bu.Is w0.heap.size g (Lib.byteCells bs) w →
    Calls Try.prog 26 #[.pointer (some ⟨g, 0, none⟩), v] w fun e w' => e = .returned (.tuple #[]) ∧ Bu.Is w0.heap.size g (Lib.byteCells (bs ++ x.bytes)) w' ∧ Below w0.heap.size w0 w' := by
  induction x using It.ind with
  | h l s xs ih =>
    rintro around g w0 w v bs ⟨a, n, cap, rfl, h⟩ hB hF hk hIs
    have hm := h.max
    have hnc := h.le
    have hlen : xs.length = n := h.len
    unfold maxLen at hm
    have hby := It.bytes_eq (.mk l s xs)
    have hin := inner_le (.mk l s xs)
    have hfr := fun w => front_any (.mk l s xs) a n cap (It.mk l s xs).inner.length (by omega) (fun e => inner_text hF e) w
    have hinn := fun w1 (hw : Below w0.heap.size w0 w1) => inside_any (.mk l s xs) around w1 (itV (.mk l s xs) a n cap) ⟨a, n, cap, rfl, h.stays hw⟩ hF (by omega)
    cases hF with
    | mk ha hs hx hy =>
      have HIn := Lib.hid hinn
      have HFr := Lib.hid hfr
      have H := Lib.hid h
      have HY := Lib.hid hy
      have HIh := Lib.hid ih
      have HBw := Lib.hid hB
      have hown : Rg.Own (w.alloc (.cells (itC (.mk l s xs) a n cap) 24)) w.heap.size (itC (.mk l s xs) a n cap) 24 := Rg.Own.new _ _ _
      replace hIs := hIs.kept (Bu.grown_below (al1 w (.cells (itC (.mk l s xs) a n cap) 24)))
      replace hB := hB.alloc hB.size (.cells (itC (.mk l s xs) a n cap) 24)
      rw [hby, List.length_append, inner_mk, List.length_append, len_s] at hk
      have HL1 : Hid ((Lib.byteCells bs).length + (frontS l s (It.mk l s xs).inner.length).size ≤ 140737488355328) := Lib.hid (by
        rw [Lib.byteCells_length]
        show bs.length + (frontL l s (It.mk l s xs).inner.length).length ≤ _
        rw [inner_mk, List.length_append, len_s]
        dsimp only [It.l, It.s] at hk
        omega)
      clear h hy ih hinn hfr hs hx ha hin
      unfold itV at HIn HFr ⊢
      dsimp only [It.l, It.s, It.xs, itC] at H HIn HFr hown hIs hB ⊢
      go_enter Try.func26, Try.ntmps26
      go_wp2_with fail
      replace hIs : Bu.Is w0.heap.size g (Lib.byteCells bs) (w.alloc (.cells #[.bool l, .string s, .slice a n cap] 24)).drew := hIs
      refine wp_region_noPanic ?_
      refine wp_region_held_drew (S := fun w' => Below w0.heap.size w0 w' ∧ Rg.Own w' w.heap.size (itC (.mk l s xs) a n cap) 24) (by kernel_rfl) (⟨hB.drew, hown.drew⟩) (fun hHeld => ?_)
      refine Rg.takeL (i := 0) (v := ?_) rfl (by kernel_rfl) (by kernel_rfl) (by kernel_rfl) (fun _ _ _ h => h) (Or.inl ⟨by rfl, ?_⟩) (by assumption) ?_
      rotate_left
      · (intro wz hSw; (try dsimp only at hSw); go_simp <;> with_reducible rfl)
      try simp only [Act.put, List.setIfInBounds_toArray, List.set_cons_zero, List.set_cons_succ]
      refine Rg.takeL (i := 1) (v := ?_) rfl (by kernel_rfl) (by kernel_rfl) (by kernel_rfl) (fun _ _ _ h => h) (Or.inl ⟨by rfl, ?_⟩) (by assumption) ?_
      rotate_left
      · (intro wz hSw; obtain ⟨z0, z1, z2⟩ := lies_row hSw.2.2; dsimp only [It.l, It.s, It.xs] at z0 z1 z2; go_simp <;> with_reducible rfl)
      try simp only [Act.put, List.setIfInBounds_toArray, List.set_cons_zero, List.set_cons_succ]
      refine Rg.takeL (i := 2) (v := ?_) rfl (by kernel_rfl) (by kernel_rfl) (by kernel_rfl) (fun _ _ _ h => h) (Or.inl ⟨by rfl, ?_⟩) (by assumption) ?_
      rotate_left
      · (intro wz hSw; obtain ⟨z0, z1, z2⟩ := lies_row hSw.2.2; dsimp only [It.l, It.s, It.xs] at z0 z1 z2; go_simp <;> with_reducible rfl)
      try simp only [Act.put, List.setIfInBounds_toArray, List.set_cons_zero, List.set_cons_succ]
      refine wpAnyH_ready (rs := [3]) (by kernel_rfl) (by simp) ?_
      refine Rg.readyL (i := 3) rfl (fun K hK => ?_)
      go_simp
      go_at_call 37
      (with_reducible refine (HIn.out _ hHeld.1).mono ?_)
      rintro e wv0 ⟨rfl, hbx⟩
      replace hIs := hIs.kept (Bu.grown_below hbx)
      refine hK.out _ _ ?_ (fun hHeld => ?_)
      · exact ⟨below_step hHeld.1 hbx (Nat.le_refl _), hHeld.2.below hbx⟩
      clear hK K hbx
      try simp only [Act.put, List.setIfInBounds_toArray, List.set_cons_zero, List.set_cons_succ]
      refine wpAnyH_ready (rs := [4]) (by kernel_rfl) (by simp) ?_
      refine Rg.readyL (i := 4) rfl (fun K hK => ?_)
      go_simp
      go_at_call 36
      (with_reducible refine (HFr.out _).mono ?_)
      rintro e wv1 ⟨rfl, hbx⟩
      replace hIs := hIs.kept (Bu.grown_below hbx)
      refine hK.out _ _ ?_ (fun hHeld => ?_)
      · exact ⟨below_step hHeld.1 hbx (Nat.le_refl _), hHeld.2.below hbx⟩
      clear hK K hbx
      try simp only [Act.put, List.setIfInBounds_toArray, List.set_cons_zero, List.set_cons_succ]
      refine wpAnyH_ready (rs := [5]) (by kernel_rfl) (by simp) ?_
      refine Rg.readyL (i := 5) rfl (fun K hK => ?_)
      go_simp
      go_at_call 35
      (with_reducible refine (Bu.write _ hIs HL1.out hHeld.1.size).mono ?_)
      rintro e wv9 ⟨rfl, hIs9, hbx, hok⟩
      have hne := hIs.not_at hHeld.2.2 (by decide)
      have hown := own_others hHeld.2 hok hne
      refine hK.out _ _ ?_ (fun hHeld => ?_)
      · exact ⟨hHeld.1.trans hbx, hown⟩
      clear hK K
      try simp only [Act.put, List.setIfInBounds_toArray, List.set_cons_zero, List.set_cons_succ]
      refine wpAnyH_done (by kernel_rfl) ?_ _
      refine NoPanic.normal ?_
      clear hB hIs hbx hok hne hown
      have HL9 := Lib.hid hHeld
      have HIs9 := Lib.hid hIs9
      obtain ⟨c0, c1, c2⟩ := lies_row hHeld.2.2
      dsimp only [It.l, It.s, It.xs] at c0 c1 c2
      clear hHeld hIs9
      go_wp2_with fail
      obtain ⟨P, hP, hP1⟩ : ∃ P, P = bs ++ frontL l s (It.mk l s xs).inner.length ++ s.data.toList ∧ P.length + (xs.map It.bytes).flatten.length ≤ 1099511627776 := ⟨_, rfl, by
        rw [List.length_append, List.length_append, len_s, inner_mk, List.length_append, len_s]
        dsimp only [It.l, It.s] at hk
        omega⟩
      have HP : Hid (P ++ (xs.map It.bytes).flatten = bs ++ (It.mk l s xs).bytes) := Lib.hid (by rw [hP, hby]; simp [inner_mk, It.l, It.s])
      have HI9 : Hid (Bu.Is w0.heap.size g (Lib.byteCells (bs ++ frontL l s (It.mk l s xs).inner.length)) wv9) := Lib.hid (by
        have := HIs9.out
        rw [Lib.strCells_eq, ← Lib.byteCells_append] at this
        exact this)
      have HL2 : Hid ((Lib.byteCells (bs ++ frontL l s (It.mk l s xs).inner.length)).length + s.size ≤ 140737488355328) := Lib.hid (by
        have := congrArg List.length hP
        rw [List.length_append, len_s] at this
        rw [Lib.byteCells_length]
        omega)
      have HE : Hid (Lib.byteCells (bs ++ frontL l s (It.mk l s xs).inner.length) ++ Lib.strCells s = Lib.byteCells P) := Lib.hid (by rw [hP, Lib.strCells_eq, ← Lib.byteCells_append])
      have HPl := Lib.hid hP1
      clear hP hP1 hk hby HIs9 HFr HIn HL1
      with_reducible refine (Bu.write s HI9.out HL2.out HL9.out.1.size).mono ?_
      rintro e wv8 ⟨rfl, hIs8, hb8, hok8⟩
      rw [HE.out] at hIs8
      have hown8 := own_others HL9.out.2 hok8 (HI9.out.not_at HL9.out.2.2 (by decide))
      obtain ⟨d0, d1, d2⟩ := lies_row hown8.2
      dsimp only [It.l, It.s, It.xs] at d0 d1 d2
      have HIs8 := Lib.hid hIs8
      have HB8 := Lib.hid (HL9.out.1.trans hb8)
      clear hIs8 hb8 hok8 hown8 c0 c1 c2
      go_wp2
      go_loopw [19] (fun i wr => ∃ q : Nat, q ≤ n ∧ i = .int .i64 q ∧ Hid (Bu.Is w0.heap.size g (Lib.byteCells (P ++ firstL xs q)) wr) ∧ Hid (Below w0.heap.size w0 wr)) (fun i _ => n - (intOf i).toNat)
      case atStart => exact ⟨0, Nat.zero_le _, rfl, Lib.hid (by rw [firstL_zero, List.append_nil]; exact HIs8.out), Lib.hid HB8.out⟩
      case round =>
        obtain ⟨q, hq, rfl, HQ, HB⟩ := hrel
        clear d0 d1 d2
        by_cases hlt : q < n
        · obtain ⟨x, b, off, A, N, C, hx, rfl, hb, hL, hI⟩ := H.out.at' q hlt
          obtain ⟨e0, e1, e2⟩ := hL.stays HB.out hb
          have hst := firstL_step xs q x hx
          have hle := firstL_le xs (q + 1)
          have hPl := HPl.out
          rw [hst, List.length_append] at hle
          have HS := Lib.hid hst
          have HI := Lib.hid (HIh.out x (List.mem_of_getElem? hx) (around + 1) g w0 (wr.alloc (.cells #[.bool x.l, .string x.s, .slice A N C] 24)) (itV x A N C) (P ++ firstL xs q) ⟨A, N, C, rfl, hI⟩ (HB.out.alloc HB.out.size _) (HY.out x (List.mem_of_getElem? hx)) (by rw [List.length_append]; omega) (HQ.out.kept (Bu.grown_below (al1 _ _))))
          unfold itV at HI
          clear hL hI hx HIh HY hst hle hPl
          go_wp2_with fail
          with_reducible refine HI.out.mono ?_
          rintro e w2 ⟨rfl, hI2, hb2⟩
          have HI2 := Lib.hid hI2
          have HB2 := Lib.hid hb2
          clear hI2 hb2
          go_wp2
          go_roundw
          case rel => exact ⟨q + 1, by omega, by go_num, Lib.hid (by rw [HS.out, ← List.append_assoc]; exact HI2.out), Lib.hid HB2.out⟩
          case measure => simp [intOf]; omega
        · obtain rfl : q = n := by omega
          clear HIh HY
          go_wp2
          go_end0
          refine ⟨rfl, ?_, ?_⟩
          · have := HQ.out
            rw [firstL_all xs _ hlen, HP.out] at this
            exact this
          · exact HB.out
end Rl
end Go.Proofs.Ytmnihiagkmdepaa
