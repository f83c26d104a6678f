/-
  Contracts of the plain answer's big and Head; of rlp.Head.
-/
import Derived.Test.YtmnihiagkmdepaaRe
import Derived.Great.BuildSlice
namespace Go.Proofs.Ytmnihiagkmdepaa
open Go.RowKit

namespace Rl
/-- a slice of one byte is made -/
theorem meetOne {o : Oper} {a : Act} {w : World} {K : Act → World → Prop} {Q : Exit → Act → World → Prop} {ops : Array Oper} (hw : Region.wanted o (yielded ops a.tmps) = true) {z : Int}
    (ho : ∃ x, o.op = .buildSlice 46 1 #[(0, x)] ∧ a.eval x = .int .u8 z) (hz : 0 ≤ z ∧ z < 256)
    (h : ∀ w' b, IsBs w' (some ⟨b, 0, none⟩) 1 1 [UInt8.ofNat z.toNat] → Below w.heap.size w w' → K (a.put o.dst (.slice (some ⟨b, 0, none⟩) 1 1)) w') : if Region.wanted o (yielded ops a.tmps) = true then Oper.wp Try.prog o a w K Q else K (a.put o.dst undef) w := by
  obtain ⟨x, ho, hx⟩ := ho
  have hb : IsBs (w.alloc (.cells #[.int .u8 z] 5)) (some ⟨w.heap.size, 0, none⟩) 1 1 [UInt8.ofNat z.toNat] := IsBs.new w [UInt8.ofNat z.toNat] (by unfold maxLen; simp) _ _ (by
    simp
    omega)
  obtain ⟨i0, hi, hz0, hz1, hz2⟩ := info_parts Cc.info_u8
  refine Rg.want hw (wp_buildSlice 46 5 1 _ ho #[.int .u8 z] i0 (.int .u8 0) Try.underlying46 hi hz0 (by rw [hz1]; decide) (by rw [hz1]; decide) ?_ (h _ _ hb (al1 _ _)))
  simp only [List.map_toArray, List.map_cons, List.map_nil, hx, hz1]
  kernel_rfl

set_option maxHeartbeats 4000000 in
theorem big_any (n : Nat) : n < 2 ^ 63 → ∀ w : World, Calls Try.prog 20 #[.int .i64 n] w fun e w' => e = .returned (.string ⟨(bigL n).toArray⟩) ∧ Below w.heap.size w w' := by
  induction n using Nat.strongRecOn with
  | ind n ih =>
    intro hn w
    by_cases h0 : n = 0
    · subst h0
      rw [bigL_zero]
      clear ih
      go_enter Try.func20, Try.ntmps20
      go_wp2
      go_ret
      exact ⟨rfl, Below.refl _ _⟩
    · have hi := ih (n / 256) (by omega) (by omega)
      rw [show ((n / 256 : Nat) : Int) = IntKind.i64.wrap ((n : Int) / 256) by rw [IntKind.wrap_i64]; omega] at hi
      have HI := Lib.hid hi
      have HQ : Hid (0 ≤ IntKind.u8.wrap ((n : Int).tmod 256) ∧ IntKind.u8.wrap ((n : Int).tmod 256) < 256) := Lib.hid (by rw [IntKind.wrap_u8]; omega)
      have HE : Hid (bigL n = bigL (n / 256) ++ [UInt8.ofNat (IntKind.u8.wrap ((n : Int).tmod 256)).toNat]) := Lib.hid (by
        rw [bigL_pos (n := n) (by omega)]
        congr 2
        rw [IntKind.wrap_u8, Int.tmod_eq_emod_of_nonneg (by omega), show (((n : Int) % 256) % 256).toNat = n % 256 by omega]
        apply UInt8.toNat_inj.1
        simp)
      have hlen : (bigL (n / 256)).length ≤ 8 := bigL_length (by omega)
      clear hi
      clear ih
      go_enter Try.func20, Try.ntmps20
      go_wp2_with fail
      refine wp_region_noPanic ?_
      refine wp_region_held_drew (S := fun w' => Below w.heap.size w w') (by kernel_rfl) ((Below.refl _ _).drew) (fun hHeld => ?_)
      refine Rg.takeL (i := 0) (v := ?_) rfl (by kernel_rfl) (by kernel_rfl) (by kernel_rfl) (fun _ _ _ h => h) (Or.inl ⟨by rfl, ?_⟩) (by assumption) ?_
      rotate_left
      · (intro wz hSw; (try dsimp only at hSw); go_simp <;> with_reducible rfl)
      try simp only [Act.put, List.setIfInBounds_toArray, List.set_cons_zero, List.set_cons_succ]
      refine Rg.takeL (i := 1) (v := ?_) rfl (by kernel_rfl) (by kernel_rfl) (by kernel_rfl) (fun _ _ _ h => h) (Or.inl ⟨by rfl, ?_⟩) (by assumption) ?_
      rotate_left
      · (intro wz hSw; (try dsimp only at hSw); go_simp <;> with_reducible rfl)
      try simp only [Act.put, List.setIfInBounds_toArray, List.set_cons_zero, List.set_cons_succ]
      refine Rg.takeL (i := 3) (v := ?_) rfl (by kernel_rfl) (by kernel_rfl) (by kernel_rfl) (fun _ _ _ h => h) (Or.inl ⟨by rfl, ?_⟩) (by assumption) ?_
      rotate_left
      · (intro wz hSw; (try dsimp only at hSw); go_simp <;> with_reducible rfl)
      try simp only [Act.put, List.setIfInBounds_toArray, List.set_cons_zero, List.set_cons_succ]
      refine Rg.takeL (i := 4) (v := ?_) rfl (by kernel_rfl) (by kernel_rfl) (by kernel_rfl) (fun _ _ _ h => h) (Or.inl ⟨by rfl, ?_⟩) (by assumption) ?_
      rotate_left
      · (intro wz hSw; (try dsimp only at hSw); go_simp <;> with_reducible rfl)
      try simp only [Act.put, List.setIfInBounds_toArray, List.set_cons_zero, List.set_cons_succ]
      refine Rg.takeL (i := 5) (v := ?_) rfl (by kernel_rfl) (by kernel_rfl) (by kernel_rfl) (fun _ _ _ h => h) (Or.inl ⟨by rfl, ?_⟩) (by assumption) ?_
      rotate_left
      · (intro wz hSw; (try dsimp only at hSw); go_simp <;> with_reducible rfl)
      try simp only [Act.put, List.setIfInBounds_toArray, List.set_cons_zero, List.set_cons_succ]
      refine wpAnyH_ready (rs := [2, 6]) (by kernel_rfl) (by simp) ?_
      refine Rg.readyC (i := 2) rfl (fun K hK => ?_) (Rg.readyL (i := 6) rfl (fun K hK => ?_))
      · go_simp
        go_at_call 20
        (with_reducible refine (HI.out _).mono ?_)
        rintro e wv0 ⟨rfl, hbx⟩
        refine hK.out _ _ ?_ (fun hHeld => ?_)
        · exact Below.trans hHeld (hbx.mono hHeld.size)
        clear hK K hbx
        try simp only [Act.put, List.setIfInBounds_toArray, List.set_cons_zero, List.set_cons_succ]
        refine wpAnyH_ready (rs := [6]) (by kernel_rfl) (by simp) ?_
        refine Rg.readyL (i := 6) rfl (fun K hK => ?_)
        refine meetOne (by rfl) ⟨_, rfl, rfl⟩ HQ.out ?_
        rintro wv1 b6 h6 hbx
        refine hK.out _ _ ?_ (fun hHeld => ?_)
        · exact Below.trans hHeld (hbx.mono hHeld.size)
        clear hK K hbx
        try simp only [Act.put, List.setIfInBounds_toArray, List.set_cons_zero, List.set_cons_succ]
        refine wpAnyH_ready (rs := [7]) (by kernel_rfl) (by simp) ?_
        refine Rg.readyL (i := 7) rfl (fun K hK => ?_)
        have hcv := conv_bs h6
        go_simp
        refine hK.out _ _ ?_ (fun hHeld => ?_)
        · exact hHeld
        clear hK K hcv
        try simp only [Act.put, List.setIfInBounds_toArray, List.set_cons_zero, List.set_cons_succ]
        refine Rg.takeL (i := 8) (v := ?_) rfl (by kernel_rfl) (by kernel_rfl) (by kernel_rfl) (fun _ _ _ h => h) (Or.inl ⟨by rfl, ?_⟩) (by assumption) ?_
        rotate_left
        · (intro wz hSw; have hz8 : ¬ 9223372036854775807 < (bigL (n / 256)).length + 1 := (by omega); go_simp <;> with_reducible rfl)
        try simp only [Act.put, List.setIfInBounds_toArray, List.set_cons_zero, List.set_cons_succ]
        refine Rg.takeL (i := 9) (v := ?_) rfl (by kernel_rfl) (by kernel_rfl) (by kernel_rfl) (fun _ _ _ h => h) (Or.inl ⟨by rfl, ?_⟩) (by assumption) ?_
        rotate_left
        · (intro wz hSw; (try dsimp only at hSw); go_simp <;> with_reducible rfl)
        try simp only [Act.put, List.setIfInBounds_toArray, List.set_cons_zero, List.set_cons_succ]
        refine wpAnyH_done (by kernel_rfl) ?_ _
        refine NoPanic.normal ?_
        go_wp2
        go_ret
        exact ⟨by rw [HE.out]; rfl, hHeld⟩
      · refine meetOne (by rfl) ⟨_, rfl, rfl⟩ HQ.out ?_
        rintro wv0 b6 h6 hbx
        refine hK.out _ _ ?_ (fun hHeld => ?_)
        · exact Below.trans hHeld (hbx.mono hHeld.size)
        clear hK K hbx
        try simp only [Act.put, List.setIfInBounds_toArray, List.set_cons_zero, List.set_cons_succ]
        refine wpAnyH_ready (rs := [2, 7]) (by kernel_rfl) (by simp) ?_
        refine Rg.readyC (i := 2) rfl (fun K hK => ?_) (Rg.readyL (i := 7) rfl (fun K hK => ?_))
        · go_simp
          go_at_call 20
          (with_reducible refine (HI.out _).mono ?_)
          rintro e wv1 ⟨rfl, hbx⟩
          replace h6 := h6.below hbx
          refine hK.out _ _ ?_ (fun hHeld => ?_)
          · exact Below.trans hHeld (hbx.mono hHeld.size)
          clear hK K hbx
          try simp only [Act.put, List.setIfInBounds_toArray, List.set_cons_zero, List.set_cons_succ]
          refine wpAnyH_ready (rs := [7]) (by kernel_rfl) (by simp) ?_
          refine Rg.readyL (i := 7) rfl (fun K hK => ?_)
          have hcv := conv_bs h6
          go_simp
          refine hK.out _ _ ?_ (fun hHeld => ?_)
          · exact hHeld
          clear hK K hcv
          try simp only [Act.put, List.setIfInBounds_toArray, List.set_cons_zero, List.set_cons_succ]
          refine Rg.takeL (i := 8) (v := ?_) rfl (by kernel_rfl) (by kernel_rfl) (by kernel_rfl) (fun _ _ _ h => h) (Or.inl ⟨by rfl, ?_⟩) (by assumption) ?_
          rotate_left
          · (intro wz hSw; have hz8 : ¬ 9223372036854775807 < (bigL (n / 256)).length + 1 := (by omega); go_simp <;> with_reducible rfl)
          try simp only [Act.put, List.setIfInBounds_toArray, List.set_cons_zero, List.set_cons_succ]
          refine Rg.takeL (i := 9) (v := ?_) rfl (by kernel_rfl) (by kernel_rfl) (by kernel_rfl) (fun _ _ _ h => h) (Or.inl ⟨by rfl, ?_⟩) (by assumption) ?_
          rotate_left
          · (intro wz hSw; (try dsimp only at hSw); go_simp <;> with_reducible rfl)
          try simp only [Act.put, List.setIfInBounds_toArray, List.set_cons_zero, List.set_cons_succ]
          refine wpAnyH_done (by kernel_rfl) ?_ _
          refine NoPanic.normal ?_
          go_wp2
          go_ret
          exact ⟨by rw [HE.out]; rfl, hHeld⟩
        · have hcv := conv_bs h6
          go_simp
          refine hK.out _ _ ?_ (fun hHeld => ?_)
          · exact hHeld
          clear hK K hcv
          try simp only [Act.put, List.setIfInBounds_toArray, List.set_cons_zero, List.set_cons_succ]
          refine wpAnyH_ready (rs := [2]) (by kernel_rfl) (by simp) ?_
          refine Rg.readyL (i := 2) rfl (fun K hK => ?_)
          go_simp
          go_at_call 20
          (with_reducible refine (HI.out _).mono ?_)
          rintro e wv1 ⟨rfl, hbx⟩
          replace h6 := h6.below hbx
          refine hK.out _ _ ?_ (fun hHeld => ?_)
          · exact Below.trans hHeld (hbx.mono hHeld.size)
          clear hK K hbx
          try simp only [Act.put, List.setIfInBounds_toArray, List.set_cons_zero, List.set_cons_succ]
          refine Rg.takeL (i := 8) (v := ?_) rfl (by kernel_rfl) (by kernel_rfl) (by kernel_rfl) (fun _ _ _ h => h) (Or.inl ⟨by rfl, ?_⟩) (by assumption) ?_
          rotate_left
          · (intro wz hSw; have hz8 : ¬ 9223372036854775807 < (bigL (n / 256)).length + 1 := (by omega); go_simp <;> with_reducible rfl)
          try simp only [Act.put, List.setIfInBounds_toArray, List.set_cons_zero, List.set_cons_succ]
          refine Rg.takeL (i := 9) (v := ?_) rfl (by kernel_rfl) (by kernel_rfl) (by kernel_rfl) (fun _ _ _ h => h) (Or.inl ⟨by rfl, ?_⟩) (by assumption) ?_
          rotate_left
          · (intro wz hSw; (try dsimp only at hSw); go_simp <;> with_reducible rfl)
          try simp only [Act.put, List.setIfInBounds_toArray, List.set_cons_zero, List.set_cons_succ]
          refine wpAnyH_done (by kernel_rfl) ?_ _
          refine NoPanic.normal ?_
          go_wp2
          go_ret
          exact ⟨by rw [HE.out]; rfl, hHeld⟩
end Rl
end Go.Proofs.Ytmnihiagkmdepaa
