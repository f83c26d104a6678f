/-
  The contract of sum.mix.
-/
import Derived.Test.YtlembfhdljmcoaaDoorMb3
import Derived.Deep.DeepCutAuto
import Derived.Laws.Bits64b
import Derived.WalkKit
import Derived.Test.YtlembfhdljmcoaaDoorRows
import Derived.WalkSpells
import Derived.WalkLawsBesides
import Derived.Lib.Hide
import Derived.Laws.IdiomStrings
import Derived.LoopN
import Derived.Test.YtlembfhdljmcoaaDoorMb2
import Derived.Test.YtlembfhdljmcoaaDoorMb1
import Derived.Lib.Bytealg
import Derived.Lib.BytesEntry
import Derived.Laws.Externs
import Derived.Lib.BufferWrite
import Derived.Lib.SlBuf
import Derived.Laws.ResultCell
set_option linter.unusedSimpArgs false
set_option linter.unusedVariables false
namespace Go.Proofs.YtlembfhdljmcoaaDoor
set_option maxRecDepth 20000
open Go.RowKit

namespace Sm
open Sh
theorem run_load_row8 (ev : Operand → Value) (o : Oper) (g : Nat) (w : World) (l : List Nat) (ho : ∃ x, o.op = .load 77 x ∧ ev x = .pointer (some ⟨g, 0, none⟩)) (hg : w.heap[g]? = some (.cells (ac l) 77 (0, 0))) (hl : l.length = 8) :
    (execOp ev o).run Tryd.prog w = .ok (.value (.agg (ac l))) w := by
  obtain ⟨x, ho, hx⟩ := ho
  have h := run_loadVar_row (P := Tryd.prog) w g 77 77 (ac l) (0, 0) _ hg Tryd.underlying77 rfl (by rw [ac_size, hl]; exact info_8)
  unfold execOp
  rw [ho]
  simp only [hx]
  simp [Instr.loadAt, Instr.sureAddr, h]
theorem run_alloc_8n (ev : Operand → Value) (o : Oper) (ho : o.op = .alloc 77) (w : World) (n : Nat) (hn : w.heap.size = n) :
    (execOp ev o).run Tryd.prog w = .ok (.value (.pointer (some ⟨n, 0, none⟩))) (w.alloc (.cells (za 8) 77)) := by
  subst hn; exact run_alloc_8 ev o ho w
theorem ac_set (l : List Nat) (j x : Nat) : (ac l).setIfInBounds j (.int .u32 x) = ac (l.set j x) := by simp [ac, List.map_set]
theorem turner_own (n x : Nat) (w : World) :
    Calls Tryd.prog 46 #[.int .u32 n, .int .u32 x] w fun e w' => ∃ b1 b2, e = .returned (.func (Fn.func 52) #[] #[.pointer (some ⟨b1, 0, none⟩), .pointer (some ⟨b2, 0, none⟩)]) ∧ Rg.Own w' b1 #[.int .u32 n] 76 ∧ Rg.Own w' b2 #[.int .u32 x] 76 ∧ b1 ≠ b2 ∧ w.heap.size ≤ b1 ∧ w.heap.size ≤ b2 ∧ Below w.heap.size w w' := by
  refine (turner_any n x w).mono ?_
  rintro e w' ⟨rfl, rfl⟩
  refine ⟨_, _, rfl, (Rg.Own.new w _ _).below ((Below.refl _ _).alloc (Nat.le_refl _) _), ?_, by omega, by omega, by omega, ((Below.refl _ _).alloc (Nat.le_refl _) _).alloc (by simp) _⟩
  have := Rg.Own.new (w.alloc (.cells #[.int .u32 n] 76)) #[.int .u32 x] 76
  rw [show (w.alloc (.cells #[.int .u32 n] 76)).heap.size = w.heap.size + 1 by simp] at this
  exact this
theorem round_l (g bn bw kk wk : Nat) (l : List Nat) (hl : l.length = 8) (hlt : ∀ x ∈ l, x < 4294967296) (w : World) (hg : w.heap[g]? = some (.cells (ac l) 77 (0, 0))) (hn : Rg.Own w bn #[.int .u32 kk] 76) (hw : Rg.Own w bw #[.int .u32 wk] 76) :
    Calls Tryd.prog 52 #[.pointer (some ⟨g, 0, none⟩), .pointer (some ⟨bn, 0, none⟩), .pointer (some ⟨bw, 0, none⟩)] w fun e w' => e = .returned (.tuple #[]) ∧ w'.heap[g]? = some (.cells (ac (roundL kk wk l)) 77 (0, 0)) ∧ w.grownBy w' (some g) := by
  obtain ⟨x0, x1, x2, x3, x4, x5, x6, x7, rfl⟩ := eight l hl
  exact round_any g bn bw kk wk x0 x1 x2 x3 x4 x5 x6 x7 (hlt _ (by simp)) (hlt _ (by simp)) (hlt _ (by simp)) (hlt _ (by simp)) (hlt _ (by simp)) (hlt _ (by simp)) w hg (cell_of_row w bn 0 _ _ _ hn.2) (cell_of_row w bw 0 _ _ _ hw.2)
theorem run_index_ac (l : List Nat) (j : Nat) (hj : j < 8) (hl : l.length = 8) (w : World) : (Instr.index 77 (.agg (ac l)) (.int .i64 j)).run Tryd.prog w = .ok (.int .u32 (l.getD j 0 : Nat)) w := by
  obtain ⟨x0, x1, x2, x3, x4, x5, x6, x7, rfl⟩ := eight l hl
  have hc : j = 0 ∨ j = 1 ∨ j = 2 ∨ j = 3 ∨ j = 4 ∨ j = 5 ∨ j = 6 ∨ j = 7 := by omega
  rcases hc with rfl | rfl | rfl | rfl | rfl | rfl | rfl | rfl <;> rfl
theorem ext_more (s : ByteArray) (k : Nat) : (s.extract (64 * k) s.size).extract 64 (s.extract (64 * k) s.size).size = s.extract (64 * (k + 1)) s.size := by
  rw [ByteArray.extract_extract]
  congr 1
  simp
  omega
theorem byteAt_drop (s : ByteArray) (k : Nat) : byteAt (s.extract (64 * k) s.size) = byteK s.data.toList k := by
  funext q
  unfold byteAt byteK
  have e : (s.extract (64 * k) s.size).data.toList = s.data.toList.drop (64 * k) := by
    simp only [ByteArray.data_extract, Array.toList_extract, List.extract_eq_take_drop]
    rw [List.take_of_length_le (by simp)]
  rw [e, List.getD, List.getD, List.getElem?_drop]

set_option maxRecDepth 100000 in
set_option maxHeartbeats 8000000 in
theorem mix_any (h : List Nat) (hh : h.length = 8) (hlt : ∀ x ∈ h, x < 4294967296) (s : ByteArray) (hs : s.size ≤ 1000000) (w : World) (hK : ∀ i, i < 64 → w.cell? ⟨0, i, none⟩ = some (.int .u32 (kN i : Nat))) :
    Calls Tryd.prog 32 #[.agg (ac h), .string s] w fun e w' => e = .returned (.agg (ac (mixK s.data.toList h (s.size / 64)))) ∧ Below w.heap.size w w' := by
  have HL := Lib.hid (mixK_length s.data.toList h hh)
  have HT := Lib.hid (mixK_lt s.data.toList h hlt)
  have h0 : 0 < w.heap.size := World.block_lt_of_cell? w _ (hK 0 (by omega))
  have HK := Lib.hid hK
  have HS0 : Hid ((w.alloc (.cells (ac h) 77)).heap[w.heap.size]? = some (.cells (ac (mixK s.data.toList h 0)) 77 (0, 0))) := Lib.hid (heap_alloc_new _ _)
  have HSt : Hid (s = s.extract (64 * 0) s.size) := Lib.hid (by simp)
  obtain ⟨A, hA⟩ : ∃ A, ac h = A := ⟨_, rfl⟩
  rw [hA] at HS0 ⊢
  clear hA hh hlt hK
  go_enter Tryd.func32, Tryd.ntmps32
  go_wp2_with (refine wpList_run rfl _ _ (run_alloc_8n _ _ rfl _ (w.heap.size + 1) (by simp)) ?_)
  go_frame
  go_loopw [1] (fun v wr => ∃ k : Nat, k ≤ s.size / 64 ∧ v = .string (s.extract (64 * k) s.size) ∧ Hid (wr.heap[w.heap.size]? = some (.cells (ac (mixK s.data.toList h k)) 77 (0, 0))) ∧ Rg.Own wr (w.heap.size + 1) (za 8) 77 ∧ Below w.heap.size w wr) (fun v _ => match v with | .string b => b.size | _ => 0)
  case atStart => exact ⟨0, by omega, by rw [← HSt.out], Lib.hid ((Lib.alloc_old _ _ _ (by simp)).trans HS0.out), by have := Rg.Own.new (w.alloc (.cells A 77)) (za 8) 77; rwa [show (w.alloc (.cells A 77)).heap.size = w.heap.size + 1 by simp] at this, ((Below.refl _ _).alloc (Nat.le_refl _) _).alloc (by simp) _⟩
  case round =>
    obtain ⟨k, hk, rfl, HH, HO4, hB⟩ := hrel
    have hsz : (s.extract (64 * k) s.size).size = s.size - 64 * k := by simp
    by_cases hlt : k < s.size / 64
    · have h64 : 64 ≤ (s.extract (64 * k) s.size).size := by omega
      have HSch := schedule_any (s.extract (64 * k) s.size) h64 (by omega)
      rw [byteAt_drop] at HSch
      have HSch := Lib.hid HSch
      have HWl := Lib.hid (schW_length (byteK s.data.toList k) 64)
      have HWt := Lib.hid (schW_lt (byteK s.data.toList k) (fun q => UInt8.toNat_lt _) 64)
      have HBl := sec (show blockL (byteK s.data.toList k) (mixK s.data.toList h k) = mixK s.data.toList h (k + 1) from rfl)
      unfold blockL at HBl
      obtain ⟨ws, hws⟩ : ∃ ws, schW (byteK s.data.toList k) 64 = ws := ⟨_, rfl⟩
      rw [hws] at HSch HWl HWt HBl
      clear hws
      have HHl := Lib.hid (HL.out k)
      have HHt := Lib.hid (HT.out k)
      have hBx : w.heap.size < wr.heap.size ∧ w.heap.size + 1 < wr.heap.size := by have := HO4.1; omega
      obtain ⟨H, hH⟩ : ∃ H, mixK s.data.toList h k = H := ⟨_, rfl⟩
      rw [hH] at HH HHl HHt HBl
      clear hH
      obtain ⟨z, hz⟩ : ∃ z, s.extract (64 * k) s.size = z := ⟨_, rfl⟩
      rw [hz] at HSch h64 hsz ⊢
      have HZ := sec hz
      clear hz
      go_upto_region 3 with fail
      go_cut [5, 6] (fun p q wx => ∃ b c, p = .pointer (some ⟨b, 0, none⟩) ∧ q = .pointer (some ⟨c, 0, none⟩) ∧ b ≠ c ∧ wr.heap.size ≤ b ∧ wr.heap.size ≤ c ∧ Hid (wx.heap[b]? = some (.cells (ac ws) 87 (0, 0))) ∧ Hid (wx.heap[c]? = some (.cells (ac H) 77 (0, 0))) ∧ Below wr.heap.size wr wx)
      case first =>
        refine wp_region_noPanic ?_
        refine wp_region_held_drew (S := fun w' => Below wr.heap.size wr w') (by kernel_rfl) ((Below.refl _ _).drew) (fun hHeld => ?_)
        refine Rg.takeL (i := 0) (v := ?_) rfl (by kernel_rfl) (by kernel_rfl) (by kernel_rfl) (fun _ _ _ h => h) (Or.inl ⟨by rfl, ?_⟩) (by assumption) ?_
        rotate_left
        · (intro wz hSw; (try dsimp only at hSw); go_simp <;> with_reducible rfl)
        try simp only [Act.put, List.setIfInBounds_toArray, List.set_cons_zero, List.set_cons_succ]
        refine Rg.takeL (i := 2) (v := ?_) rfl (by kernel_rfl) (by kernel_rfl) (by kernel_rfl) (fun _ _ _ h => h) (Or.inl ⟨by rfl, ?_⟩) (by assumption) ?_
        rotate_left
        · (intro wz hSw; refine run_load_row8 _ _ w.heap.size wz H ?_ (by rw [hSw.block _ hBx.1]; exact HH.out) HHl.out; exact ⟨_, rfl, rfl⟩)
        try simp only [Act.put, List.setIfInBounds_toArray, List.set_cons_zero, List.set_cons_succ]
        refine wpAnyH_ready (rs := [1, 3, 4]) (by kernel_rfl) (by simp) ?_
        refine Rg.readyC (i := 1) rfl (fun K hK => ?_) (Rg.readyC (i := 3) rfl (fun K hK => ?_) (Rg.readyL (i := 4) rfl (fun K hK => ?_)))
        · go_simp
          go_at_call 45
          (with_reducible refine (HSch.out _).mono ?_)
          rintro e wv0 ⟨rfl, hbx⟩
          refine hK.out _ _ ?_ (fun hHeld => ?_)
          · exact Below.trans hHeld (hbx.mono hHeld.size)
          clear hK K
          try simp only [Act.put, List.setIfInBounds_toArray, List.set_cons_zero, List.set_cons_succ]
          refine wpAnyH_ready (rs := [3, 4]) (by kernel_rfl) (by simp) ?_
          refine Rg.readyC (i := 3) rfl (fun K hK => ?_) (Rg.readyL (i := 4) rfl (fun K hK => ?_))
          · refine Rg.meetAlloc (by rfl) (run_alloc_64 _ _ rfl _) ?_
            rintro wv1 b3 he3 h3 hbx
            have ge3 : wr.heap.size ≤ b3 := by rw [he3]; exact Below.size hHeld
            clear he3
            refine hK.out _ _ ?_ (fun hHeld => ?_)
            · exact Below.trans hHeld (hbx.mono hHeld.size)
            clear hK K hbx
            try simp only [Act.put, List.setIfInBounds_toArray, List.set_cons_zero, List.set_cons_succ]
            refine wpAnyH_ready (rs := [4]) (by kernel_rfl) (by simp) ?_
            refine Rg.readyL (i := 4) rfl (fun K hK => ?_)
            refine Rg.meetAlloc (by rfl) (run_alloc_8 _ _ rfl _) ?_
            rintro wv2 b4 he4 h4 hbx
            have ge4 : wr.heap.size ≤ b4 := by rw [he4]; exact Below.size hHeld
            have ne3_4 : b3 ≠ b4 := by have := h3.1; omega
            replace h3 := h3.below hbx
            clear he4
            refine hK.out _ _ ?_ (fun hHeld => ?_)
            · exact Below.trans hHeld (hbx.mono hHeld.size)
            clear hK K hbx
            try simp only [Act.put, List.setIfInBounds_toArray, List.set_cons_zero, List.set_cons_succ]
            refine wpAnyH_ready (rs := [5]) (by kernel_rfl) (by simp) ?_
            refine Rg.readyL (i := 5) rfl (fun K hK => ?_)
            refine Rg.meetStore (by rfl) h3 87 (ac ws) ⟨_, _, rfl, rfl, rfl⟩ (by rw [ac_size, HWl.out]; exact info_64) (by rw [ac_size, HWl.out, za, ac_size]; simp) (ac_one _) ?_
            rintro wv3 hn hu
            replace h4 := h4.upd hu (Ne.symm ne3_4)
            refine hK.out _ _ ?_ (fun hHeld => ?_)
            · exact hu.below hHeld ge3
            replace h3 := hn
            clear hK K hn hu
            try simp only [Act.put]
            refine wpAnyH_ready (rs := [6]) (by kernel_rfl) (by simp) ?_
            refine Rg.readyL (i := 6) rfl (fun K hK => ?_)
            refine Rg.meetStore (by rfl) h4 77 (ac H) ⟨_, _, rfl, rfl, rfl⟩ (by rw [ac_size, HHl.out]; exact info_8) (by rw [ac_size, HHl.out, za, ac_size]; simp) (ac_one _) ?_
            rintro wv4 hn hu
            replace h3 := h3.upd hu ne3_4
            refine hK.out _ _ ?_ (fun hHeld => ?_)
            · exact hu.below hHeld ge4
            replace h4 := hn
            clear hK K hn hu
            try simp only [Act.put]
            refine wpAnyH_done (by kernel_rfl) ?_ _
            refine NoPanic.normal ?_
            go_wp2_with fail
            go_meet
            exact ⟨b3, b4, rfl, rfl, ne3_4, ge3, ge4, Lib.hid h3.2, Lib.hid h4.2, hHeld⟩
          · refine Rg.meetAlloc (by rfl) (run_alloc_8 _ _ rfl _) ?_
            rintro wv1 b4 he4 h4 hbx
            have ge4 : wr.heap.size ≤ b4 := by rw [he4]; exact Below.size hHeld
            clear he4
            refine hK.out _ _ ?_ (fun hHeld => ?_)
            · exact Below.trans hHeld (hbx.mono hHeld.size)
            clear hK K hbx
            try simp only [Act.put, List.setIfInBounds_toArray, List.set_cons_zero, List.set_cons_succ]
            refine wpAnyH_ready (rs := [3]) (by kernel_rfl) (by simp) ?_
            refine Rg.readyL (i := 3) rfl (fun K hK => ?_)
            refine Rg.meetAlloc (by rfl) (run_alloc_64 _ _ rfl _) ?_
            rintro wv2 b3 he3 h3 hbx
            have ge3 : wr.heap.size ≤ b3 := by rw [he3]; exact Below.size hHeld
            have ne3_4 : b3 ≠ b4 := by have := h4.1; omega
            replace h4 := h4.below hbx
            clear he3
            refine hK.out _ _ ?_ (fun hHeld => ?_)
            · exact Below.trans hHeld (hbx.mono hHeld.size)
            clear hK K hbx
            try simp only [Act.put, List.setIfInBounds_toArray, List.set_cons_zero, List.set_cons_succ]
            refine wpAnyH_ready (rs := [5]) (by kernel_rfl) (by simp) ?_
            refine Rg.readyL (i := 5) rfl (fun K hK => ?_)
            refine Rg.meetStore (by rfl) h3 87 (ac ws) ⟨_, _, rfl, rfl, rfl⟩ (by rw [ac_size, HWl.out]; exact info_64) (by rw [ac_size, HWl.out, za, ac_size]; simp) (ac_one _) ?_
            rintro wv3 hn hu
            replace h4 := h4.upd hu (Ne.symm ne3_4)
            refine hK.out _ _ ?_ (fun hHeld => ?_)
            · exact hu.below hHeld ge3
            replace h3 := hn
            clear hK K hn hu
            try simp only [Act.put]
            refine wpAnyH_ready (rs := [6]) (by kernel_rfl) (by simp) ?_
            refine Rg.readyL (i := 6) rfl (fun K hK => ?_)
            refine Rg.meetStore (by rfl) h4 77 (ac H) ⟨_, _, rfl, rfl, rfl⟩ (by rw [ac_size, HHl.out]; exact info_8) (by rw [ac_size, HHl.out, za, ac_size]; simp) (ac_one _) ?_
            rintro wv4 hn hu
            replace h3 := h3.upd hu ne3_4
            refine hK.out _ _ ?_ (fun hHeld => ?_)
            · exact hu.below hHeld ge4
            replace h4 := hn
            clear hK K hn hu
            try simp only [Act.put]
            refine wpAnyH_done (by kernel_rfl) ?_ _
            refine NoPanic.normal ?_
            go_wp2_with fail
            go_meet
            exact ⟨b3, b4, rfl, rfl, ne3_4, ge3, ge4, Lib.hid h3.2, Lib.hid h4.2, hHeld⟩
        · refine Rg.meetAlloc (by rfl) (run_alloc_64 _ _ rfl _) ?_
          rintro wv0 b3 he3 h3 hbx
          have ge3 : wr.heap.size ≤ b3 := by rw [he3]; exact Below.size hHeld
          clear he3
          refine hK.out _ _ ?_ (fun hHeld => ?_)
          · exact Below.trans hHeld (hbx.mono hHeld.size)
          clear hK K hbx
          try simp only [Act.put, List.setIfInBounds_toArray, List.set_cons_zero, List.set_cons_succ]
          refine wpAnyH_ready (rs := [1, 4]) (by kernel_rfl) (by simp) ?_
          refine Rg.readyC (i := 1) rfl (fun K hK => ?_) (Rg.readyL (i := 4) rfl (fun K hK => ?_))
          · go_simp
            go_at_call 45
            (with_reducible refine (HSch.out _).mono ?_)
            rintro e wv1 ⟨rfl, hbx⟩
            replace h3 := h3.below hbx
            refine hK.out _ _ ?_ (fun hHeld => ?_)
            · exact Below.trans hHeld (hbx.mono hHeld.size)
            clear hK K
            try simp only [Act.put, List.setIfInBounds_toArray, List.set_cons_zero, List.set_cons_succ]
            refine wpAnyH_ready (rs := [4]) (by kernel_rfl) (by simp) ?_
            refine Rg.readyL (i := 4) rfl (fun K hK => ?_)
            refine Rg.meetAlloc (by rfl) (run_alloc_8 _ _ rfl _) ?_
            rintro wv2 b4 he4 h4 hbx
            have ge4 : wr.heap.size ≤ b4 := by rw [he4]; exact Below.size hHeld
            have ne3_4 : b3 ≠ b4 := by have := h3.1; omega
            replace h3 := h3.below hbx
            clear he4
            refine hK.out _ _ ?_ (fun hHeld => ?_)
            · exact Below.trans hHeld (hbx.mono hHeld.size)
            clear hK K hbx
            try simp only [Act.put, List.setIfInBounds_toArray, List.set_cons_zero, List.set_cons_succ]
            refine wpAnyH_ready (rs := [5]) (by kernel_rfl) (by simp) ?_
            refine Rg.readyL (i := 5) rfl (fun K hK => ?_)
            refine Rg.meetStore (by rfl) h3 87 (ac ws) ⟨_, _, rfl, rfl, rfl⟩ (by rw [ac_size, HWl.out]; exact info_64) (by rw [ac_size, HWl.out, za, ac_size]; simp) (ac_one _) ?_
            rintro wv3 hn hu
            replace h4 := h4.upd hu (Ne.symm ne3_4)
            refine hK.out _ _ ?_ (fun hHeld => ?_)
            · exact hu.below hHeld ge3
            replace h3 := hn
            clear hK K hn hu
            try simp only [Act.put]
            refine wpAnyH_ready (rs := [6]) (by kernel_rfl) (by simp) ?_
            refine Rg.readyL (i := 6) rfl (fun K hK => ?_)
            refine Rg.meetStore (by rfl) h4 77 (ac H) ⟨_, _, rfl, rfl, rfl⟩ (by rw [ac_size, HHl.out]; exact info_8) (by rw [ac_size, HHl.out, za, ac_size]; simp) (ac_one _) ?_
            rintro wv4 hn hu
            replace h3 := h3.upd hu ne3_4
            refine hK.out _ _ ?_ (fun hHeld => ?_)
            · exact hu.below hHeld ge4
            replace h4 := hn
            clear hK K hn hu
            try simp only [Act.put]
            refine wpAnyH_done (by kernel_rfl) ?_ _
            refine NoPanic.normal ?_
            go_wp2_with fail
            go_meet
            exact ⟨b3, b4, rfl, rfl, ne3_4, ge3, ge4, Lib.hid h3.2, Lib.hid h4.2, hHeld⟩
          · refine Rg.meetAlloc (by rfl) (run_alloc_8 _ _ rfl _) ?_
            rintro wv1 b4 he4 h4 hbx
            have ge4 : wr.heap.size ≤ b4 := by rw [he4]; exact Below.size hHeld
            have ne3_4 : b3 ≠ b4 := by have := h3.1; omega
            replace h3 := h3.below hbx
            clear he4
            refine hK.out _ _ ?_ (fun hHeld => ?_)
            · exact Below.trans hHeld (hbx.mono hHeld.size)
            clear hK K hbx
            try simp only [Act.put, List.setIfInBounds_toArray, List.set_cons_zero, List.set_cons_succ]
            refine wpAnyH_ready (rs := [1]) (by kernel_rfl) (by simp) ?_
            refine Rg.readyL (i := 1) rfl (fun K hK => ?_)
            go_simp
            go_at_call 45
            (with_reducible refine (HSch.out _).mono ?_)
            rintro e wv2 ⟨rfl, hbx⟩
            replace h3 := h3.below hbx
            replace h4 := h4.below hbx
            refine hK.out _ _ ?_ (fun hHeld => ?_)
            · exact Below.trans hHeld (hbx.mono hHeld.size)
            clear hK K
            try simp only [Act.put, List.setIfInBounds_toArray, List.set_cons_zero, List.set_cons_succ]
            refine wpAnyH_ready (rs := [5]) (by kernel_rfl) (by simp) ?_
            refine Rg.readyL (i := 5) rfl (fun K hK => ?_)
            refine Rg.meetStore (by rfl) h3 87 (ac ws) ⟨_, _, rfl, rfl, rfl⟩ (by rw [ac_size, HWl.out]; exact info_64) (by rw [ac_size, HWl.out, za, ac_size]; simp) (ac_one _) ?_
            rintro wv3 hn hu
            replace h4 := h4.upd hu (Ne.symm ne3_4)
            refine hK.out _ _ ?_ (fun hHeld => ?_)
            · exact hu.below hHeld ge3
            replace h3 := hn
            clear hK K hn hu
            try simp only [Act.put]
            refine wpAnyH_ready (rs := [6]) (by kernel_rfl) (by simp) ?_
            refine Rg.readyL (i := 6) rfl (fun K hK => ?_)
            refine Rg.meetStore (by rfl) h4 77 (ac H) ⟨_, _, rfl, rfl, rfl⟩ (by rw [ac_size, HHl.out]; exact info_8) (by rw [ac_size, HHl.out, za, ac_size]; simp) (ac_one _) ?_
            rintro wv4 hn hu
            replace h3 := h3.upd hu ne3_4
            refine hK.out _ _ ?_ (fun hHeld => ?_)
            · exact hu.below hHeld ge4
            replace h4 := hn
            clear hK K hn hu
            try simp only [Act.put]
            refine wpAnyH_done (by kernel_rfl) ?_ _
            refine NoPanic.normal ?_
            go_wp2_with fail
            go_meet
            exact ⟨b3, b4, rfl, rfl, ne3_4, ge3, ge4, Lib.hid h3.2, Lib.hid h4.2, hHeld⟩
        · refine Rg.meetAlloc (by rfl) (run_alloc_8 _ _ rfl _) ?_
          rintro wv0 b4 he4 h4 hbx
          have ge4 : wr.heap.size ≤ b4 := by rw [he4]; exact Below.size hHeld
          clear he4
          refine hK.out _ _ ?_ (fun hHeld => ?_)
          · exact Below.trans hHeld (hbx.mono hHeld.size)
          clear hK K hbx
          try simp only [Act.put, List.setIfInBounds_toArray, List.set_cons_zero, List.set_cons_succ]
          refine wpAnyH_ready (rs := [1, 3]) (by kernel_rfl) (by simp) ?_
          refine Rg.readyC (i := 1) rfl (fun K hK => ?_) (Rg.readyL (i := 3) rfl (fun K hK => ?_))
          · go_simp
            go_at_call 45
            (with_reducible refine (HSch.out _).mono ?_)
            rintro e wv1 ⟨rfl, hbx⟩
            replace h4 := h4.below hbx
            refine hK.out _ _ ?_ (fun hHeld => ?_)
            · exact Below.trans hHeld (hbx.mono hHeld.size)
            clear hK K
            try simp only [Act.put, List.setIfInBounds_toArray, List.set_cons_zero, List.set_cons_succ]
            refine wpAnyH_ready (rs := [3]) (by kernel_rfl) (by simp) ?_
            refine Rg.readyL (i := 3) rfl (fun K hK => ?_)
            refine Rg.meetAlloc (by rfl) (run_alloc_64 _ _ rfl _) ?_
            rintro wv2 b3 he3 h3 hbx
            have ge3 : wr.heap.size ≤ b3 := by rw [he3]; exact Below.size hHeld
            have ne3_4 : b3 ≠ b4 := by have := h4.1; omega
            replace h4 := h4.below hbx
            clear he3
            refine hK.out _ _ ?_ (fun hHeld => ?_)
            · exact Below.trans hHeld (hbx.mono hHeld.size)
            clear hK K hbx
            try simp only [Act.put, List.setIfInBounds_toArray, List.set_cons_zero, List.set_cons_succ]
            refine wpAnyH_ready (rs := [5]) (by kernel_rfl) (by simp) ?_
            refine Rg.readyL (i := 5) rfl (fun K hK => ?_)
            refine Rg.meetStore (by rfl) h3 87 (ac ws) ⟨_, _, rfl, rfl, rfl⟩ (by rw [ac_size, HWl.out]; exact info_64) (by rw [ac_size, HWl.out, za, ac_size]; simp) (ac_one _) ?_
            rintro wv3 hn hu
            replace h4 := h4.upd hu (Ne.symm ne3_4)
            refine hK.out _ _ ?_ (fun hHeld => ?_)
            · exact hu.below hHeld ge3
            replace h3 := hn
            clear hK K hn hu
            try simp only [Act.put]
            refine wpAnyH_ready (rs := [6]) (by kernel_rfl) (by simp) ?_
            refine Rg.readyL (i := 6) rfl (fun K hK => ?_)
            refine Rg.meetStore (by rfl) h4 77 (ac H) ⟨_, _, rfl, rfl, rfl⟩ (by rw [ac_size, HHl.out]; exact info_8) (by rw [ac_size, HHl.out, za, ac_size]; simp) (ac_one _) ?_
            rintro wv4 hn hu
            replace h3 := h3.upd hu ne3_4
            refine hK.out _ _ ?_ (fun hHeld => ?_)
            · exact hu.below hHeld ge4
            replace h4 := hn
            clear hK K hn hu
            try simp only [Act.put]
            refine wpAnyH_done (by kernel_rfl) ?_ _
            refine NoPanic.normal ?_
            go_wp2_with fail
            go_meet
            exact ⟨b3, b4, rfl, rfl, ne3_4, ge3, ge4, Lib.hid h3.2, Lib.hid h4.2, hHeld⟩
          · refine Rg.meetAlloc (by rfl) (run_alloc_64 _ _ rfl _) ?_
            rintro wv1 b3 he3 h3 hbx
            have ge3 : wr.heap.size ≤ b3 := by rw [he3]; exact Below.size hHeld
            have ne3_4 : b3 ≠ b4 := by have := h4.1; omega
            replace h4 := h4.below hbx
            clear he3
            refine hK.out _ _ ?_ (fun hHeld => ?_)
            · exact Below.trans hHeld (hbx.mono hHeld.size)
            clear hK K hbx
            try simp only [Act.put, List.setIfInBounds_toArray, List.set_cons_zero, List.set_cons_succ]
            refine wpAnyH_ready (rs := [1]) (by kernel_rfl) (by simp) ?_
            refine Rg.readyL (i := 1) rfl (fun K hK => ?_)
            go_simp
            go_at_call 45
            (with_reducible refine (HSch.out _).mono ?_)
            rintro e wv2 ⟨rfl, hbx⟩
            replace h4 := h4.below hbx
            replace h3 := h3.below hbx
            refine hK.out _ _ ?_ (fun hHeld => ?_)
            · exact Below.trans hHeld (hbx.mono hHeld.size)
            clear hK K
            try simp only [Act.put, List.setIfInBounds_toArray, List.set_cons_zero, List.set_cons_succ]
            refine wpAnyH_ready (rs := [5]) (by kernel_rfl) (by simp) ?_
            refine Rg.readyL (i := 5) rfl (fun K hK => ?_)
            refine Rg.meetStore (by rfl) h3 87 (ac ws) ⟨_, _, rfl, rfl, rfl⟩ (by rw [ac_size, HWl.out]; exact info_64) (by rw [ac_size, HWl.out, za, ac_size]; simp) (ac_one _) ?_
            rintro wv3 hn hu
            replace h4 := h4.upd hu (Ne.symm ne3_4)
            refine hK.out _ _ ?_ (fun hHeld => ?_)
            · exact hu.below hHeld ge3
            replace h3 := hn
            clear hK K hn hu
            try simp only [Act.put]
            refine wpAnyH_ready (rs := [6]) (by kernel_rfl) (by simp) ?_
            refine Rg.readyL (i := 6) rfl (fun K hK => ?_)
            refine Rg.meetStore (by rfl) h4 77 (ac H) ⟨_, _, rfl, rfl, rfl⟩ (by rw [ac_size, HHl.out]; exact info_8) (by rw [ac_size, HHl.out, za, ac_size]; simp) (ac_one _) ?_
            rintro wv4 hn hu
            replace h3 := h3.upd hu ne3_4
            refine hK.out _ _ ?_ (fun hHeld => ?_)
            · exact hu.below hHeld ge4
            replace h4 := hn
            clear hK K hn hu
            try simp only [Act.put]
            refine wpAnyH_done (by kernel_rfl) ?_ _
            refine NoPanic.normal ?_
            go_wp2_with fail
            go_meet
            exact ⟨b3, b4, rfl, rfl, ne3_4, ge3, ge4, Lib.hid h3.2, Lib.hid h4.2, hHeld⟩
      case rest =>
        obtain ⟨b, c, rfl, rfl, hbc, hgb, hgc, HPB, HPC, hBy⟩ := hcut
        obtain ⟨wo, rfl⟩ : ∃ wo : World, wo = wr := ⟨_, rfl⟩
        clear HSch
        have hlb : b < wc.heap.size := by have := HPB.out; rcases Nat.lt_or_ge b wc.heap.size with h' | h'; exact h'; rw [Array.getElem?_eq_none h'] at this; cases this
        have hlc : c < wc.heap.size := by have := HPC.out; rcases Nat.lt_or_ge c wc.heap.size with h' | h'; exact h'; rw [Array.getElem?_eq_none h'] at this; cases this
        have HB := Lib.hid hB
        have HBy := Lib.hid hBy
        have HSz := sec hsz
        clear hB hBy hsz
        go_wp2_with fail
        go_loopw [19] (fun i wx => ∃ j : Nat, j ≤ 64 ∧ i = .int .i64 j ∧ Hid (Rg.Own wx b (ac ws) 87) ∧ Hid (Rg.Own wx c (ac (runL ws H j)) 77) ∧ Hid (Below wo.heap.size wo wx)) (fun i _ => 64 - (intOf i).toNat)
        case atStart => exact ⟨0, by omega, rfl, Lib.hid ⟨hlb, HPB.out⟩, Lib.hid ⟨hlc, HPC.out⟩, HBy⟩
        case round =>
          clear HPB HPC HBy hlb hlc
          obtain ⟨j, hj, rfl, HPB, HPC, HBy⟩ := hrel
          by_cases hlt2 : j < 64
          · have hkj := (HBy.out.cell (p := ⟨0, j, none⟩) (by show 0 < wo.heap.size; omega)).trans ((HB.out.cell (p := ⟨0, j, none⟩) h0).trans (HK.out j hlt2))
            have hwj : wr.cell? ⟨b, j, none⟩ = some (.int .u32 (ws.getD j 0 : Nat)) := (cell_of_row wr b j _ _ _ HPB.out.2).trans (ac_get ws j (by rw [HWl.out]; exact hlt2))
            have HKJ := Lib.hid hkj
            have HWJ := Lib.hid hwj
            have h0r : 0 < wr.heap.size := by have := HBy.out.size; omega
            have hbr := HPB.out.1
            have HRl := Lib.hid (runL_length ws H HHl.out j)
            have HRt := Lib.hid (runL_lt ws H HHt.out j)
            have HRs := sec (show roundL (kN j) (ws.getD j 0) (runL ws H j) = runL ws H (j + 1) from rfl)
            obtain ⟨L, hL⟩ : ∃ L, runL ws H j = L := ⟨_, rfl⟩
            obtain ⟨kk, hkk⟩ : ∃ L, kN j = L := ⟨_, rfl⟩
            obtain ⟨wk, hwk⟩ : ∃ L, ws.getD j 0 = L := ⟨_, rfl⟩
            rw [hL] at HPC HRl HRt HRs
            rw [hkk] at HKJ HRs
            rw [hwk] at HWJ HRs
            clear hL hkk hwk hkj hwj
            have HTu := Lib.hid (turner_own kk wk)
            have l0 : (0 : Int) ≤ (j : Int) := by omega
            have l1 : (j : Int) < 64 := by omega
            go_wp2_with fail
            refine wp_region_noPanic ?_
            refine wp_region_held_drew (S := fun w' => Below wr.heap.size wr w') (by kernel_rfl) ((Below.refl _ _).drew) (fun hHeld => ?_)
            refine Rg.takeL (i := 0) (v := ?_) rfl (by kernel_rfl) (by kernel_rfl) (by kernel_rfl) (fun _ _ _ h => h) (Or.inl ⟨by rfl, ?_⟩) (by assumption) ?_
            rotate_left
            · (intro wz hSw; (try dsimp only at hSw); go_simp <;> with_reducible rfl)
            try simp only [Act.put, List.setIfInBounds_toArray, List.set_cons_zero, List.set_cons_succ]
            refine Rg.takeL (i := 1) (v := ?_) rfl (by kernel_rfl) (by kernel_rfl) (by kernel_rfl) (fun _ _ _ h => h) (Or.inl ⟨by rfl, ?_⟩) (by assumption) ?_
            rotate_left
            · (intro wz hSw; (try dsimp only at hSw); go_simp <;> with_reducible rfl)
            try simp only [Act.put, List.setIfInBounds_toArray, List.set_cons_zero, List.set_cons_succ]
            refine Rg.takeL (i := 2) (v := ?_) rfl (by kernel_rfl) (by kernel_rfl) (by kernel_rfl) (fun _ _ _ h => h) (Or.inl ⟨by rfl, ?_⟩) (by assumption) ?_
            rotate_left
            · (intro wz hSw; (have hc := (hSw.cell (p := ⟨0, j, none⟩) h0r).trans HKJ.out); go_simp <;> with_reducible rfl)
            try simp only [Act.put, List.setIfInBounds_toArray, List.set_cons_zero, List.set_cons_succ]
            refine Rg.takeL (i := 3) (v := ?_) rfl (by kernel_rfl) (by kernel_rfl) (by kernel_rfl) (fun _ _ _ h => h) (Or.inl ⟨by rfl, ?_⟩) (by assumption) ?_
            rotate_left
            · (intro wz hSw; (try dsimp only at hSw); go_simp <;> with_reducible rfl)
            try simp only [Act.put, List.setIfInBounds_toArray, List.set_cons_zero, List.set_cons_succ]
            refine Rg.takeL (i := 4) (v := ?_) rfl (by kernel_rfl) (by kernel_rfl) (by kernel_rfl) (fun _ _ _ h => h) (Or.inl ⟨by rfl, ?_⟩) (by assumption) ?_
            rotate_left
            · (intro wz hSw; (try dsimp only at hSw); go_simp <;> with_reducible rfl)
            try simp only [Act.put, List.setIfInBounds_toArray, List.set_cons_zero, List.set_cons_succ]
            refine Rg.takeL (i := 5) (v := ?_) rfl (by kernel_rfl) (by kernel_rfl) (by kernel_rfl) (fun _ _ _ h => h) (Or.inl ⟨by rfl, ?_⟩) (by assumption) ?_
            rotate_left
            · (intro wz hSw; (have hc := (hSw.cell (p := ⟨b, j, none⟩) hbr).trans HWJ.out); go_simp <;> with_reducible rfl)
            try simp only [Act.put, List.setIfInBounds_toArray, List.set_cons_zero, List.set_cons_succ]
            refine wpAnyH_ready (rs := [6]) (by kernel_rfl) (by simp) ?_
            refine Rg.readyL (i := 6) rfl (fun K hK => ?_)
            go_simp
            go_at_call 46
            (with_reducible refine (HTu.out _).mono ?_)
            rintro e wv0 ⟨q1, q2, rfl, ho1, ho2, hq12, hg1, hg2, hbx⟩
            refine hK.out _ _ ?_ (fun hHeld => ?_)
            · exact Below.trans hHeld (hbx.mono hHeld.size)
            clear hK K
            try simp only [Act.put, List.setIfInBounds_toArray, List.set_cons_zero, List.set_cons_succ]
            refine Rg.takeL (i := 7) (v := ?_) rfl (by kernel_rfl) (by kernel_rfl) (by kernel_rfl) (fun _ _ _ h => h) (Or.inl ⟨by rfl, ?_⟩) (by assumption) ?_
            rotate_left
            · (intro wz hSw; (try dsimp only at hSw); go_simp <;> with_reducible rfl)
            try simp only [Act.put, List.setIfInBounds_toArray, List.set_cons_zero, List.set_cons_succ]
            refine wpAnyH_done (by kernel_rfl) ?_ _
            refine NoPanic.normal ?_
            clear l0 l1 HTu HKJ HWJ
            go_wp2_with fail
            refine (round_l c q1 q2 kk wk L HRl.out HRt.out _ (by rw [hbx.block _ HPC.out.1]; exact HPC.out.2) ho1 ho2).mono ?_
            rintro e w4 ⟨rfl, hc4, hg4⟩
            have HC4 := Lib.hid hc4
            clear hc4
            go_wp2_with fail
            go_roundw
            case rel =>
              have hbl := HPB.out.below hHeld
              refine ⟨j + 1, by omega, by go_num, Lib.hid ⟨Nat.lt_of_lt_of_le hbl.1 hg4.size, (hg4.block _ hbl.1 (by simpa using hbc)).trans hbl.2⟩, Lib.hid ⟨Nat.lt_of_lt_of_le (HPC.out.below hHeld).1 hg4.size, by rw [← HRs.out]; exact HC4.out⟩, Lib.hid ((HBy.out.trans (hHeld.mono HBy.out.size)).grown hg4 (HBy.out.trans (hHeld.mono HBy.out.size)).size (fun g hg => by cases hg; exact hgc))⟩
            case measure => simp [intOf]; omega
          · have hj64 : j = 64 := by omega
            rw [hj64] at HPC
            clear hj64
            have HVl := Lib.hid (runL_length ws H HHl.out 64)
            have HVt := Lib.hid (runL_lt ws H HHt.out 64)
            obtain ⟨V, hV⟩ : ∃ L, runL ws H 64 = L := ⟨_, rfl⟩
            rw [hV] at HPC HVl HVt HBl
            clear hV
            have HWd : Hid (Rg.Own wr w.heap.size (ac (addM H V 0)) 77) := Lib.hid ⟨by have := HBy.out.size; omega, by rw [HBy.out.block _ hBx.1, addM_zero _ _ HHl.out]; exact HH.out⟩
            have HO5 : Hid (Rg.Own wr (w.heap.size + 1) (za 8) 77) := Lib.hid ((HO4.below (HBy.out.mono (Nat.le_refl _))))
            have HIx := Lib.hid (fun j hj wz => run_index_ac V j hj HVl.out wz)
            obtain ⟨AV, hAV⟩ : ∃ A, ac V = A := ⟨_, rfl⟩
            have hAs : AV.size = 8 := by rw [← hAV, ac_size, HVl.out]
            rw [hAV] at HPC HIx
            have HAs := Lib.hid hAs
            clear hAV hAs HPB
            go_wp2_with (first | (refine wpList_load_row rfl _ _ rfl c rfl 77 AV (0, 0) _ HPC.out.2 Tryd.underlying77 rfl (by rw [HAs.out]; exact info_8) ?_))
            obtain ⟨wp, rfl⟩ : ∃ wp : World, wp = wr := ⟨_, rfl⟩
            clear hlt2
            go_loopw [33] (fun i wx => ∃ q : Nat, q ≤ 8 ∧ i = .int .i64 q ∧ Hid (Rg.Own wx w.heap.size (ac (addM H V q)) 77) ∧ Hid (Rg.Upd wp w.heap.size wx)) (fun i _ => 8 - (intOf i).toNat)
            case atStart => exact ⟨0, by omega, rfl, HWd, Lib.hid ⟨rfl, rfl, rfl, rfl, fun _ _ => rfl⟩⟩
            case round =>
              clear HWd
              obtain ⟨q, hq, rfl, HWd, HUp⟩ := hrel
              by_cases hlt3 : q < 8
              · have hix := HIx.out q hlt3
                have hcl := (cell_of_row wr w.heap.size q _ _ _ HWd.out.2).trans (ac_get (addM H V q) q (by rw [addM_length]; exact hlt3))
                have hfz := frozen_of_row wr w.heap.size q _ _ HWd.out.2
                rw [addM_getD H V q hlt3] at hcl
                have HN := sec (addM_set H V q hlt3)
                have bx := getD_lt HHt.out q
                have bv := getD_lt HVt.out q
                obtain ⟨x, hx⟩ : ∃ x, H.getD q 0 = x := ⟨_, rfl⟩
                obtain ⟨y, hy⟩ : ∃ x, V.getD q 0 = x := ⟨_, rfl⟩
                rw [hx] at hcl bx HN
                rw [hy] at hix bv HN
                clear hx hy
                have hv : ((x : Int) + y) % 4294967296 = ((x + y) % 4294967296 : Nat) := by omega
                have HVs := sec hv
                clear hv
                go_wp2
                go_roundw
                case rel =>
                  refine ⟨q + 1, by omega, by go_num, ?_, ?_⟩
                  · rw [HVs.out]
                    exact Lib.hid ⟨by simpa using HWd.out.1, by rw [heap_setCell_same _ _ _ _ _ _ HWd.out.2, ac_set, HN.out]⟩
                  · exact Lib.hid ⟨HUp.out.os, HUp.out.tape, HUp.out.output, by simpa using HUp.out.size, fun k hk => (heap_setCell_other _ _ _ _ hk).trans (HUp.out.block k hk)⟩
                case measure => simp [intOf]; omega
              · obtain rfl : q = 8 := by omega
                have HF : Hid (Rg.Own wr w.heap.size (ac (mixK s.data.toList h (k + 1))) 77) := Lib.hid (by rw [← HBl.out, ← addM_all]; exact HWd.out)
                have HO6 : Hid (Rg.Own wr (w.heap.size + 1) (za 8) 77) := Lib.hid (HO5.out.upd HUp.out (by omega))
                have HB6 : Hid (Below w.heap.size w wr) := Lib.hid (HUp.out.below (HB.out.trans (HBy.out.mono HB.out.size)) (Nat.le_refl _))
                have HE : Hid (z.extract 64 (s.size - 64 * k) = s.extract (64 * (k + 1)) s.size) := Lib.hid (by rw [← HSz.out, ← HZ.out]; exact ext_more s k)
                have hz3 : z.size = s.size - 64 * k := HSz.out
                have HES : Hid ((s.extract (64 * (k + 1)) s.size).size = s.size - 64 * (k + 1)) := Lib.hid (by simp)
                have hzs : 64 ≤ (z.size : Int) := by omega
                clear HWd HUp HO5 HIx hlt3 hq
                go_wp2
                go_roundw
                case rel => exact ⟨k + 1, by omega, by rw [← HE.out], Lib.hid HF.out.2, HO6.out, HB6.out⟩
                case measure =>
                  show (z.extract 64 (s.size - 64 * k)).size < z.size
                  rw [HE.out, HES.out]
                  omega
    · obtain rfl : k = s.size / 64 := by omega
      have HHl := Lib.hid (HL.out (s.size / 64))
      obtain ⟨H, hH⟩ : ∃ H, mixK s.data.toList h (s.size / 64) = H := ⟨_, rfl⟩
      have HHs := sec hH
      rw [hH] at HH HHl
      have HO4 := Lib.hid HO4
      clear hH HS0 HSt
      have hsz2 : ((s.extract (64 * (s.size / 64)) s.size).size : Int) < 64 := by omega
      obtain ⟨z, hz⟩ : ∃ z, s.extract (64 * (s.size / 64)) s.size = z := ⟨_, rfl⟩
      rw [hz] at hsz2 ⊢
      clear hz hsz hlt hk
      go_wp2_with (first | (refine wpList_load_row rfl _ _ rfl w.heap.size rfl 77 (ac H) (0, 0) _ HH.out Tryd.underlying77 rfl (by rw [ac_size, HHl.out]; exact info_8) ?_) | (refine wpList_store_rowTo rfl 77 _ _ rfl rfl _ (ac H) rfl rfl 77 (za 8) HO4.out.2 (by rw [ac_size, HHl.out]; exact info_8) (by rw [ac_size, HHl.out, za, ac_size]; simp) (ac_one _) ?_))
      exact bodyPost_ret (results_cell_row rfl _ _ (w.heap.size + 1) 77 (ac H) (0, 0) _ rfl (setRow_heap _ _ _ _ _ _ HO4.out.2) Tryd.underlying77 rfl (by rw [ac_size, HHl.out]; exact info_8)) rfl ⟨by rw [HHs.out], below_row hB (by omega) _⟩
end Sm
end Go.Proofs.YtlembfhdljmcoaaDoor

/-
  The contract of sum.Of.
-/
namespace Go.Proofs.YtlembfhdljmcoaaDoor
set_option maxRecDepth 20000
open Go.RowKit

namespace Sm
open Sh
/-- the cells of an array of bytes -/
def kc (k : List UInt8) : Array Value := (k.map fun b => Value.int .u8 b.toNat).toArray
theorem kc_size (k : List UInt8) : (kc k).size = k.length := by simp [kc]
theorem kc_one (k : List UInt8) : (kc k).all (·.oneCell') = true := by
  rw [Array.all_eq_true]
  intro i hi
  simp [kc]
  rfl
theorem info_sum : (Tryd.prog.info? 43).map (·.size) = some 32 := by kernel_rfl
theorem info_kc (k : List UInt8) (h : k.length = 32) : (Tryd.prog.info? 43).map (·.size) = some (kc k).size := by rw [kc_size, h]; exact info_sum
/-- the sum of nothing -/
def zk : List UInt8 := List.replicate 32 0
theorem zk_length : zk.length = 32 := rfl
theorem run_alloc_sum (ev : Operand → Value) (o : Oper) (ho : o.op = .alloc 43) (w : World) (n : Nat) (hn : w.heap.size = n) :
    (execOp ev o).run Tryd.prog w = .ok (.value (.pointer (some ⟨n, 0, none⟩))) (w.alloc (.cells (kc zk) 43)) := by
  subst hn
  unfold execOp
  rw [ho]
  kernel_rfl
theorem kc_row {w : World} {g : Nat} {t : TypeId} (l : List UInt8) {f : Nat → Value} (h : w.rowIs g t 32 f) (hl : l.length = 32) (hf : ∀ j, j < 32 → f j = .int .u8 (l.getD j 0).toNat) : w.heap[g]? = some (.cells (kc l) t (0, 0)) := by
  obtain ⟨c, hg, hs, hc⟩ := h
  have : c = kc l := by
    apply Array.ext
    · rw [hs, kc_size, hl]
    · intro i hi h2
      have h1 := hc i (by omega)
      rw [hf i (by omega), Array.getElem?_eq_getElem hi] at h1
      have h3 := Option.some.inj h1
      rw [h3]
      have h4 : i < l.length := by omega
      simp [kc, List.getD, h4]
  rw [hg, this]
/-- a row of zeros as cells -/
theorem zk_row {w : World} {g : Nat} {t : TypeId} (h : w.heap[g]? = some (.cells (kc zk) t (0, 0))) : w.rowIs g t 32 (fun _ => .int .u8 0) :=
  ⟨_, h, rfl, fun i hi => by
    show ((zk.map fun b => Value.int .u8 b.toNat).toArray)[i]? = _
    have hz : zk[i]? = some 0 := by
      unfold zk
      rw [List.getElem?_replicate, if_pos hi]
    rw [List.getElem?_toArray, List.getElem?_map, hz]
    rfl⟩
theorem start_lt : ∀ x ∈ Sh.start, x < 4294967296 := by decide
/-- the state behind the whole blocks, and behind the end -/
theorem hash_two (s : ByteArray) (m : Nat) (hm : m = s.size - s.size % 64) :
    mixK ((s.extract m s.size).data.toList ++ endL s.size) (mixK (s.extract 0 m).data.toList Sh.start ((s.extract 0 m).size / 64)) (((s.extract m s.size).data.toList ++ endL s.size).length / 64) = hashK (fillL s.data.toList) ((fillL s.data.toList).length / 64) := by
  have e1 : (s.extract 0 m).data.toList = s.data.toList.take m := by simp
  have e2 : (s.extract m s.size).data.toList = s.data.toList.drop m := by
    simp only [ByteArray.data_extract, Array.toList_extract, List.extract_eq_take_drop]
    rw [List.take_of_length_le (by simp)]
  have hl : s.data.toList.length = s.size := by simp
  have e3 : (s.extract 0 m).size = m := by simp; omega
  have e4 : fillL s.data.toList = s.data.toList.take m ++ (s.data.toList.drop m ++ endL s.size) := by
    rw [fillL_end, hl, ← List.append_assoc, List.take_append_drop]
  have hmd := fillL_mod s.data.toList
  rw [e1, e2, e3, ← mixK_start, e4]
  rw [e4] at hmd
  have hlen : (s.data.toList.take m ++ (s.data.toList.drop m ++ endL s.size)).length = m + (s.data.toList.drop m ++ endL s.size).length := by
    rw [List.length_append, List.length_take, hl]
    congr 1
    omega
  rw [hlen] at hmd ⊢
  rw [show (m + (s.data.toList.drop m ++ endL s.size).length) / 64 = m / 64 + (s.data.toList.drop m ++ endL s.size).length / 64 by omega]
  exact (mixK_more _ _ (m / 64) (by rw [List.length_take, hl]; omega) _ _).symm

set_option maxRecDepth 100000 in
set_option maxHeartbeats 8000000 in
theorem of_any (s : ByteArray) (hs : s.size ≤ 900000) (w : World) (hK : ∀ i, i < 64 → w.cell? ⟨0, i, none⟩ = some (.int .u32 (kN i : Nat))) :
    Calls Tryd.prog 24 #[.string s] w fun e w' => e = .returned (.agg (kc (sumL s.data.toList))) ∧ Below w.heap.size w w' := by
  have h0 : 0 < w.heap.size := World.block_lt_of_cell? w _ (hK 0 (by omega))
  have HK := Lib.hid hK
  have HEnd := Lib.hid (end_any s.size (by omega))
  obtain ⟨m, hm⟩ : ∃ m, s.size - s.size % 64 = m := ⟨_, rfl⟩
  have hmi : (s.size : Int) - s.size % 64 = m := by omega
  have hml : m ≤ s.size := by omega
  have hF := hash_two s m hm.symm
  have HM1 := Lib.hid (mixK_length (s.extract 0 m).data.toList Sh.start rfl ((s.extract 0 m).size / 64))
  have hT1 := mixK_lt (s.extract 0 m).data.toList Sh.start start_lt ((s.extract 0 m).size / 64)
  have HX1 := Lib.hid (fun W hk => mix_any Sh.start rfl start_lt (s.extract 0 m) (by simp; omega) W hk)
  obtain ⟨M1, hM1⟩ : ∃ M, mixK (s.extract 0 m).data.toList Sh.start ((s.extract 0 m).size / 64) = M := ⟨_, rfl⟩
  rw [hM1] at HM1 hT1 hF HX1
  obtain ⟨s2, hs2⟩ : ∃ s2, s.extract m s.size ++ ⟨(endL s.size).toArray⟩ = s2 := ⟨_, rfl⟩
  have hd2 : s2.data.toList = (s.extract m s.size).data.toList ++ endL s.size := by rw [← hs2, ByteArray.data_append]; simp
  have hz2 : s2.size = ((s.extract m s.size).data.toList ++ endL s.size).length := by rw [← hd2]; simp
  have hz : zerosN s.size < 64 := Nat.mod_lt _ (by omega)
  have HX2 := Lib.hid (fun W hk => mix_any M1 HM1.out hT1 s2 (by rw [hz2, List.length_append, endL_length]; simp; omega) W hk)
  rw [← hd2, show s2.data.toList.length = s2.size by simp] at hF
  rw [hF] at HX2
  have HM2 := Lib.hid (hashK_length (fillL s.data.toList) ((fillL s.data.toList).length / 64))
  have HT2 := Lib.hid (hashK_lt (fillL s.data.toList) ((fillL s.data.toList).length / 64))
  have HS := sec (show outK (hashK (fillL s.data.toList) ((fillL s.data.toList).length / 64)) 32 = sumL s.data.toList from rfl)
  obtain ⟨M2, hM2⟩ : ∃ M, hashK (fillL s.data.toList) ((fillL s.data.toList).length / 64) = M := ⟨_, rfl⟩
  rw [hM2] at HX2 HM2 HT2 HS
  have HS2 := Lib.hid hs2
  clear hT1 hF hd2 hz2 hz hM2 hs2
  clear hK hm hM1
  go_enter Tryd.func24, Tryd.ntmps24
  go_upto_region 3 with (first | (refine wpList_run rfl _ _ (run_alloc_sum _ _ rfl _ w.heap.size rfl) ?_) | (refine wpList_run rfl _ _ (run_alloc_8n _ _ rfl _ (w.heap.size + 1) (by simp)) ?_) | (refine wpList_store_rowTo rfl 77 _ _ rfl rfl (w.heap.size + 1) (ac Sh.start) rfl rfl 77 (za 8) (by have := heap_alloc_new (w.alloc (.cells (kc zk) 43)) (.cells (za 8) 77); simpa using this) info_8 rfl (ac_one _) ?_))
  have h2 : Rg.Own (((w.alloc (.cells (kc zk) 43)).alloc (.cells (za 8) 77)).setRow (w.heap.size + 1) (ac Sh.start)) w.heap.size (kc zk) 43 :=
    ((Rg.Own.new w _ _).below ((Below.refl _ _).alloc (Nat.le_refl _) _)).upd (Rg.Upd.set _ _ _) (by omega)
  have h3 : Rg.Own (((w.alloc (.cells (kc zk) 43)).alloc (.cells (za 8) 77)).setRow (w.heap.size + 1) (ac Sh.start)) (w.heap.size + 1) (ac Sh.start) 77 :=
    ⟨by simp, setRow_heap _ _ _ _ _ _ (by have := heap_alloc_new (w.alloc (.cells (kc zk) 43)) (.cells (za 8) 77); simpa using this)⟩
  have hB0 : Below w.heap.size w (((w.alloc (.cells (kc zk) 43)).alloc (.cells (za 8) 77)).setRow (w.heap.size + 1) (ac Sh.start)) :=
    below_row (((Below.refl _ _).alloc (Nat.le_refl _) _).alloc (by simp) _) (by omega) _
  generalize (((w.alloc (.cells (kc zk) 43)).alloc (.cells (za 8) 77)).setRow (w.heap.size + 1) (ac Sh.start)) = W0 at h2 h3 hB0 ⊢
  have ge2 : w.heap.size ≤ w.heap.size := Nat.le_refl _
  have ge3 : w.heap.size ≤ w.heap.size + 1 := by omega
  have ne2_3 : w.heap.size ≠ w.heap.size + 1 := by omega
  refine wp_region_noPanic ?_
  refine wp_region_held_drew (S := fun w' => Below w.heap.size w w') (by kernel_rfl) (hB0.drew) (fun hHeld => ?_)
  replace h2 := h2.drew
  replace h3 := h3.drew
  refine Rg.takeL (i := 1) (v := ?_) rfl (by kernel_rfl) (by kernel_rfl) (by kernel_rfl) (fun _ _ _ h => h) (Or.inl ⟨by rfl, ?_⟩) (by assumption) ?_
  rotate_left
  · (intro wz hSw; (try dsimp only at hSw); go_simp <;> with_reducible rfl)
  try simp only [Act.put, List.setIfInBounds_toArray, List.set_cons_zero, List.set_cons_succ]
  refine Rg.takeL (i := 2) (v := ?_) rfl (by kernel_rfl) (by kernel_rfl) (by kernel_rfl) (fun _ _ _ h => h) (Or.inl ⟨by rfl, ?_⟩) (by assumption) ?_
  rotate_left
  · (intro wz hSw; (try dsimp only at hSw); go_simp <;> with_reducible rfl)
  try simp only [Act.put, List.setIfInBounds_toArray, List.set_cons_zero, List.set_cons_succ]
  refine Rg.takeL (i := 3) (v := ?_) rfl (by kernel_rfl) (by kernel_rfl) (by kernel_rfl) (fun _ _ _ h => h) (Or.inl ⟨by rfl, ?_⟩) (by assumption) ?_
  rotate_left
  · (intro wz hSw; (try dsimp only at hSw); go_simp <;> with_reducible rfl)
  try simp only [Act.put, List.setIfInBounds_toArray, List.set_cons_zero, List.set_cons_succ]
  refine wpAnyH_ready (rs := [0]) (by kernel_rfl) (by simp) ?_
  refine Rg.readyL (i := 0) rfl (fun K hK => ?_)
  refine Rg.meet (by rfl) _ _ (run_load_row8 _ _ (w.heap.size + 1) _ Sh.start ?_ h3.2 rfl) ?_
  · exact ⟨_, rfl, rfl⟩
  refine hK.out _ _ ?_ (fun hHeld => ?_)
  · exact hHeld
  clear hK K
  try simp only [Act.put, List.setIfInBounds_toArray, List.set_cons_zero, List.set_cons_succ]
  refine wpAnyH_ready (rs := [4]) (by kernel_rfl) (by simp) ?_
  refine Rg.readyL (i := 4) rfl (fun K hK => ?_)
  go_simp
  go_at_call 32
  (with_reducible refine (HX1.out _ (fun i hi => (hHeld.cell (p := ⟨0, i, none⟩) h0).trans (HK.out i hi))).mono ?_)
  rintro e wv0 ⟨rfl, hbx⟩
  replace h2 := h2.below hbx
  replace h3 := h3.below hbx
  refine hK.out _ _ ?_ (fun hHeld => ?_)
  · exact Below.trans hHeld (hbx.mono hHeld.size)
  clear hK K
  try simp only [Act.put, List.setIfInBounds_toArray, List.set_cons_zero, List.set_cons_succ]
  refine wpAnyH_ready (rs := [5]) (by kernel_rfl) (by simp) ?_
  refine Rg.readyL (i := 5) rfl (fun K hK => ?_)
  refine Rg.meetStore (by rfl) h3 77 (ac M1) ⟨_, _, rfl, rfl, rfl⟩ (by rw [ac_size, HM1.out]; exact info_8) (by rw [ac_size, ac_size, HM1.out]; exact rfl) (ac_one _) ?_
  rintro wv1 hn hu
  replace h2 := h2.upd hu ne2_3
  refine hK.out _ _ ?_ (fun hHeld => ?_)
  · exact hu.below hHeld ge3
  replace h3 := hn
  clear hK K hn hu
  try simp only [Act.put]
  refine wpAnyH_done (by kernel_rfl) ?_ _
  refine NoPanic.normal ?_
  go_wp2_with fail
  have hB1 := hHeld
  clear hHeld
  go_cut [3] (fun p wx => p = .pointer (some ⟨w.heap.size + 1, 0, none⟩) ∧ Hid (Rg.Own wx w.heap.size (kc zk) 43) ∧ Hid (Rg.Own wx (w.heap.size + 1) (ac M2) 77) ∧ Hid (Below w.heap.size w wx))
  case first =>
    have hs2 := HS2.out
    have HCC : Hid (¬ 9223372036854775807 < s.size - m + (endL s.size).length) := Lib.hid (by have hz : zerosN s.size < 64 := Nat.mod_lt _ (by omega); rw [endL_length]; omega)
    refine wp_region_noPanic ?_
    refine wp_region_held_drew (S := fun w' => Below w.heap.size w w') (by kernel_rfl) (hB1.drew) (fun hHeld => ?_)
    replace h2 := h2.drew
    replace h3 := h3.drew
    refine Rg.takeL (i := 1) (v := ?_) rfl (by kernel_rfl) (by kernel_rfl) (by kernel_rfl) (fun _ _ _ h => h) (Or.inl ⟨by rfl, ?_⟩) (by assumption) ?_
    rotate_left
    · (intro wz hSw; (try dsimp only at hSw); go_simp <;> with_reducible rfl)
    try simp only [Act.put, List.setIfInBounds_toArray, List.set_cons_zero, List.set_cons_succ]
    refine Rg.takeL (i := 2) (v := ?_) rfl (by kernel_rfl) (by kernel_rfl) (by kernel_rfl) (fun _ _ _ h => h) (Or.inl ⟨by rfl, ?_⟩) (by assumption) ?_
    rotate_left
    · (intro wz hSw; (try dsimp only at hSw); go_simp <;> with_reducible rfl)
    try simp only [Act.put, List.setIfInBounds_toArray, List.set_cons_zero, List.set_cons_succ]
    refine Rg.takeL (i := 3) (v := ?_) rfl (by kernel_rfl) (by kernel_rfl) (by kernel_rfl) (fun _ _ _ h => h) (Or.inl ⟨by rfl, ?_⟩) (by assumption) ?_
    rotate_left
    · (intro wz hSw; (try dsimp only at hSw); go_simp <;> with_reducible rfl)
    try simp only [Act.put, List.setIfInBounds_toArray, List.set_cons_zero, List.set_cons_succ]
    refine Rg.takeL (i := 4) (v := ?_) rfl (by kernel_rfl) (by kernel_rfl) (by kernel_rfl) (fun _ _ _ h => h) (Or.inl ⟨by rfl, ?_⟩) (by assumption) ?_
    rotate_left
    · (intro wz hSw; (try dsimp only at hSw); go_simp <;> with_reducible rfl)
    try simp only [Act.put, List.setIfInBounds_toArray, List.set_cons_zero, List.set_cons_succ]
    refine Rg.takeL (i := 5) (v := ?_) rfl (by kernel_rfl) (by kernel_rfl) (by kernel_rfl) (fun _ _ _ h => h) (Or.inl ⟨by rfl, ?_⟩) (by assumption) ?_
    rotate_left
    · (intro wz hSw; (try dsimp only at hSw); go_simp <;> with_reducible rfl)
    try simp only [Act.put, List.setIfInBounds_toArray, List.set_cons_zero, List.set_cons_succ]
    refine wpAnyH_ready (rs := [0, 6]) (by kernel_rfl) (by simp) ?_
    refine Rg.readyC (i := 0) rfl (fun K hK => ?_) (Rg.readyL (i := 6) rfl (fun K hK => ?_))
    · refine Rg.meet (by rfl) _ _ (run_load_row8 _ _ (w.heap.size + 1) _ M1 ?_ h3.2 HM1.out) ?_
      · exact ⟨_, rfl, rfl⟩
      refine hK.out _ _ ?_ (fun hHeld => ?_)
      · exact hHeld
      clear hK K
      try simp only [Act.put, List.setIfInBounds_toArray, List.set_cons_zero, List.set_cons_succ]
      refine wpAnyH_ready (rs := [6]) (by kernel_rfl) (by simp) ?_
      refine Rg.readyL (i := 6) rfl (fun K hK => ?_)
      go_simp
      go_at_call 33
      (with_reducible refine (HEnd.out _).mono ?_)
      rintro e wv0 ⟨rfl, hbx⟩
      replace h2 := h2.below hbx
      replace h3 := h3.below hbx
      refine hK.out _ _ ?_ (fun hHeld => ?_)
      · exact Below.trans hHeld (hbx.mono hHeld.size)
      clear hK K
      try simp only [Act.put, List.setIfInBounds_toArray, List.set_cons_zero, List.set_cons_succ]
      refine Rg.takeL (i := 7) (v := ?_) rfl (by kernel_rfl) (by kernel_rfl) (by kernel_rfl) (fun _ _ _ h => h) (Or.inl ⟨by rfl, ?_⟩) (by assumption) ?_
      rotate_left
      · (intro wz hSw; (have hcc := HCC.out); go_simp <;> with_reducible rfl)
      try simp only [Act.put, List.setIfInBounds_toArray, List.set_cons_zero, List.set_cons_succ]
      refine wpAnyH_ready (rs := [8]) (by kernel_rfl) (by simp) ?_
      refine Rg.readyL (i := 8) rfl (fun K hK => ?_)
      go_simp
      go_at_call 32
      (with_reducible refine (HX2.out _ (fun i hi => (hHeld.cell (p := ⟨0, i, none⟩) h0).trans (HK.out i hi))).mono ?_)
      rintro e wv1 ⟨rfl, hbx⟩
      replace h2 := h2.below hbx
      replace h3 := h3.below hbx
      refine hK.out _ _ ?_ (fun hHeld => ?_)
      · exact Below.trans hHeld (hbx.mono hHeld.size)
      clear hK K
      try simp only [Act.put, List.setIfInBounds_toArray, List.set_cons_zero, List.set_cons_succ]
      refine wpAnyH_ready (rs := [9]) (by kernel_rfl) (by simp) ?_
      refine Rg.readyL (i := 9) rfl (fun K hK => ?_)
      refine Rg.meetStore (by rfl) h3 77 (ac M2) ⟨_, _, rfl, rfl, rfl⟩ (by rw [ac_size, HM2.out]; exact info_8) (by rw [ac_size, ac_size, HM2.out]; exact HM1.out) (ac_one _) ?_
      rintro wv2 hn hu
      replace h2 := h2.upd hu ne2_3
      refine hK.out _ _ ?_ (fun hHeld => ?_)
      · exact hu.below hHeld ge3
      replace h3 := hn
      clear hK K hn hu
      try simp only [Act.put]
      refine wpAnyH_done (by kernel_rfl) ?_ _
      refine NoPanic.normal ?_
      go_wp2_with fail
      go_meet
      exact ⟨rfl, Lib.hid h2, Lib.hid h3, Lib.hid hHeld⟩
    · go_simp
      go_at_call 33
      (with_reducible refine (HEnd.out _).mono ?_)
      rintro e wv0 ⟨rfl, hbx⟩
      replace h2 := h2.below hbx
      replace h3 := h3.below hbx
      refine hK.out _ _ ?_ (fun hHeld => ?_)
      · exact Below.trans hHeld (hbx.mono hHeld.size)
      clear hK K
      try simp only [Act.put, List.setIfInBounds_toArray, List.set_cons_zero, List.set_cons_succ]
      refine Rg.takeL (i := 7) (v := ?_) rfl (by kernel_rfl) (by kernel_rfl) (by kernel_rfl) (fun _ _ _ h => h) (Or.inl ⟨by rfl, ?_⟩) (by assumption) ?_
      rotate_left
      · (intro wz hSw; (have hcc := HCC.out); go_simp <;> with_reducible rfl)
      try simp only [Act.put, List.setIfInBounds_toArray, List.set_cons_zero, List.set_cons_succ]
      refine wpAnyH_ready (rs := [0]) (by kernel_rfl) (by simp) ?_
      refine Rg.readyL (i := 0) rfl (fun K hK => ?_)
      refine Rg.meet (by rfl) _ _ (run_load_row8 _ _ (w.heap.size + 1) _ M1 ?_ h3.2 HM1.out) ?_
      · exact ⟨_, rfl, rfl⟩
      refine hK.out _ _ ?_ (fun hHeld => ?_)
      · exact hHeld
      clear hK K
      try simp only [Act.put, List.setIfInBounds_toArray, List.set_cons_zero, List.set_cons_succ]
      refine wpAnyH_ready (rs := [8]) (by kernel_rfl) (by simp) ?_
      refine Rg.readyL (i := 8) rfl (fun K hK => ?_)
      go_simp
      go_at_call 32
      (with_reducible refine (HX2.out _ (fun i hi => (hHeld.cell (p := ⟨0, i, none⟩) h0).trans (HK.out i hi))).mono ?_)
      rintro e wv1 ⟨rfl, hbx⟩
      replace h2 := h2.below hbx
      replace h3 := h3.below hbx
      refine hK.out _ _ ?_ (fun hHeld => ?_)
      · exact Below.trans hHeld (hbx.mono hHeld.size)
      clear hK K
      try simp only [Act.put, List.setIfInBounds_toArray, List.set_cons_zero, List.set_cons_succ]
      refine wpAnyH_ready (rs := [9]) (by kernel_rfl) (by simp) ?_
      refine Rg.readyL (i := 9) rfl (fun K hK => ?_)
      refine Rg.meetStore (by rfl) h3 77 (ac M2) ⟨_, _, rfl, rfl, rfl⟩ (by rw [ac_size, HM2.out]; exact info_8) (by rw [ac_size, ac_size, HM2.out]; exact HM1.out) (ac_one _) ?_
      rintro wv2 hn hu
      replace h2 := h2.upd hu ne2_3
      refine hK.out _ _ ?_ (fun hHeld => ?_)
      · exact hu.below hHeld ge3
      replace h3 := hn
      clear hK K hn hu
      try simp only [Act.put]
      refine wpAnyH_done (by kernel_rfl) ?_ _
      refine NoPanic.normal ?_
      go_wp2_with fail
      go_meet
      exact ⟨rfl, Lib.hid h2, Lib.hid h3, Lib.hid hHeld⟩
  case rest =>
    obtain ⟨rfl, H2, H3, HB⟩ := hcut
    obtain ⟨W, rfl⟩ : ∃ W : World, W = wc := ⟨_, rfl⟩
    have h3 := H3.out
    have H3' : Hid ((W.alloc (.cells (kc zk) 43)).heap[w.heap.size + 1]? = some (.cells (ac M2) 77 (0, 0))) := Lib.hid ((Lib.alloc_old _ _ _ h3.1).trans h3.2)
    have HR0 : Hid ((W.alloc (.cells (kc zk) 43)).rowIs W.heap.size 43 32 (fun j => .int .u8 (if j < 4 * 0 then wByte M2 j else 0 : Nat))) := Lib.hid ((zk_row (heap_alloc_new _ _)).congr (fun j _ => by rw [if_neg (by omega)]; rfl))
    have HIx := Lib.hid (fun j hj wz => run_index_ac M2 j hj HM2.out wz)
    have HLx := Lib.hid (fun j => getD_lt HT2.out j)
    obtain ⟨A, hA⟩ : ∃ A, ac M2 = A := ⟨_, rfl⟩
    have HAs : Hid (A.size = 8) := Lib.hid (by rw [← hA, ac_size, HM2.out])
    rw [hA] at H3' HIx
    clear h3 hA HEnd HX1 HX2 hmi h2 hB1 hHeld hbx
    go_wp2_with (first | (refine wpList_run rfl _ _ (run_alloc_sum _ _ rfl _ _ rfl) ?_) | (refine wpList_load_row rfl _ _ rfl (w.heap.size + 1) rfl 77 A (0, 0) _ H3'.out Tryd.underlying77 rfl (by rw [HAs.out]; exact info_8) ?_))
    go_loopw [30] (fun i wx => ∃ q : Nat, q ≤ 8 ∧ i = .int .i64 q ∧ Hid (wx.rowIs W.heap.size 43 32 (fun j => .int .u8 (if j < 4 * q then wByte M2 j else 0 : Nat))) ∧ Hid (Below W.heap.size W wx)) (fun i _ => 8 - (intOf i).toNat)
    case atStart => exact ⟨0, by omega, rfl, HR0, Lib.hid ((Below.refl _ _).alloc (Nat.le_refl _) _)⟩
    case round =>
      clear HR0
      obtain ⟨q, hq, rfl, HR, HBx⟩ := hrel
      by_cases hlt : q < 8
      · have hix := HIx.out q hlt
        have hxl := HLx.out q
        have HLay := lay_any W.heap.size (4 * q) 4 (32 - 4 * q) (M2.getD q 0) 32 43 _ wr HR.out (by omega) (by omega)
        have HRn : Hid ((laidN wr W.heap.size (4 * q) 4 (M2.getD q 0) 4).rowIs W.heap.size 43 32 (fun j => .int .u8 (if j < 4 * (q + 1) then wByte M2 j else 0 : Nat))) := Lib.hid ((laidN_row HR.out 4).congr (fun j _ => by
          by_cases h1 : 4 * q ≤ j ∧ j < 4 * q + 4
          · rw [if_pos h1, if_pos (by omega)]
            unfold upB wByte
            rw [show j / 4 = q by omega, show 4 - 1 - (j - 4 * q) = 3 - j % 4 by omega]
          · rw [if_neg h1]
            by_cases h2 : j < 4 * q
            · rw [if_pos h2, if_pos (by omega)]
            · rw [if_neg h2, if_neg (by omega)]))
        have HBn : Hid (Below W.heap.size W (laidN wr W.heap.size (4 * q) 4 (M2.getD q 0) 4)) := Lib.hid (laidN_below HBx.out (Nat.le_refl _) 4)
        obtain ⟨x, hx⟩ : ∃ x, M2.getD q 0 = x := ⟨_, rfl⟩
        rw [hx] at hix hxl HLay HRn HBn
        have HLay := Lib.hid HLay
        clear hx
        have l0 : (0 : Int) ≤ 4 * (q : Int) := by omega
        have l1 : 4 * (q : Int) ≤ 4 * (q : Int) + 4 := by omega
        have l2 : 4 * (q : Int) + 4 ≤ 32 := by omega
        have l3 : (4 * (q : Int)).toNat = 4 * q := by omega
        have l4 : (4 * (q : Int) + 4).toNat = 4 * q + 4 := by omega
        have l5 : ¬ 32 = 4 * q := by omega
        go_wp2_with fail
        refine HLay.out.mono ?_
        rintro e w3 ⟨rfl, rfl⟩
        clear l0 l1 l2 l3 l4 l5 HLay hix
        go_wp2
        go_roundw
        case rel => exact ⟨q + 1, by omega, by go_num, HRn, HBn⟩
        case measure => simp [intOf]; omega
      · obtain rfl : q = 8 := by omega
        have HF : Hid (wr.heap[W.heap.size]? = some (.cells (kc (sumL s.data.toList)) 43 (0, 0))) := Lib.hid (kc_row _ HR.out (sumL_length _) (fun j hj => by
          rw [if_pos (by omega), ← HS.out]
          simp [outK, List.getD, hj]
          unfold wByte
          omega))
        have H22 : Hid (Rg.Own wr w.heap.size (kc zk) 43) := Lib.hid (H2.out.below HBx.out)
        have HB2 : Hid (Below w.heap.size w wr) := Lib.hid (HB.out.trans (HBx.out.mono HB.out.size))
        have hkl := sumL_length s.data.toList
        obtain ⟨K, hK⟩ : ∃ K, sumL s.data.toList = K := ⟨_, rfl⟩
        have HKK := sec hK
        rw [hK] at hkl HF
        have HKL := Lib.hid hkl
        clear hK hkl HR HIx HLx
        go_wp2_with (first | (refine wpList_load_row rfl _ _ rfl W.heap.size rfl 43 (kc K) (0, 0) _ HF.out Tryd.underlying43 rfl (info_kc K HKL.out) ?_) | (refine wpList_store_rowTo rfl 43 _ _ rfl rfl _ (kc K) rfl rfl 43 (kc zk) H22.out.2 (info_kc K HKL.out) (by rw [kc_size, kc_size, HKL.out]; rfl) (kc_one _) ?_))
        exact bodyPost_ret (results_cell_row rfl _ _ w.heap.size 43 (kc K) (0, 0) _ rfl (setRow_heap _ _ _ _ _ _ H22.out.2) Tryd.underlying43 rfl (info_kc K HKL.out)) rfl ⟨by rw [HKK.out], below_row HB2.out (by omega) _⟩
end Sm
end Go.Proofs.YtlembfhdljmcoaaDoor

/-
  Plain facts on numbers in bytes, the lowest first: no program is named here.
-/
namespace Go.Proofs.YtlembfhdljmcoaaDoor
namespace WideP

/-- the number of a list of bytes, the lowest first -/
def valL (l : List UInt8) : Nat := l.foldr (fun b a => b.toNat + 256 * a) 0
/-- n's lowest k bytes -/
def numL (n k : Nat) : List UInt8 := (List.range k).map fun i => UInt8.ofNat (n / 256 ^ i)

theorem valL_nil : valL [] = 0 := rfl
theorem valL_cons (b : UInt8) (l : List UInt8) : valL (b :: l) = b.toNat + 256 * valL l := rfl
theorem valL_lt (l : List UInt8) : valL l < 256 ^ l.length := by
  induction l with
  | nil => simp [valL]
  | cons b l ih =>
    rw [valL_cons, List.length_cons, Nat.pow_succ]
    have := b.toNat_lt
    omega
theorem valL_snoc (l : List UInt8) (b : UInt8) : valL (l ++ [b]) = valL l + b.toNat * 256 ^ l.length := by
  induction l with
  | nil => simp [valL]
  | cons c l ih =>
    rw [List.cons_append, valL_cons, valL_cons, ih, List.length_cons, Nat.pow_succ, Nat.mul_add]
    have : 256 * (b.toNat * 256 ^ l.length) = b.toNat * (256 ^ l.length * 256) := by
      rw [Nat.mul_comm 256, Nat.mul_assoc]
    omega
theorem pow8 (k : Nat) : 2 ^ (8 * k) = 256 ^ k := by
  rw [Nat.pow_mul]
theorem pow_le8 (k : Nat) (h : k ≤ 8) : 256 ^ k ≤ 18446744073709551616 := by
  have : (256 : Nat) ^ k ≤ 256 ^ 8 := Nat.pow_le_pow_right (by omega) h
  simpa using this
theorem valL_lt64 (l : List UInt8) (h : l.length ≤ 8) : valL l < 18446744073709551616 :=
  Nat.lt_of_lt_of_le (valL_lt l) (pow_le8 _ h)

theorem numL_length (n k : Nat) : (numL n k).length = k := by simp [numL]
theorem numL_zero (n : Nat) : numL n 0 = [] := rfl
theorem numL_snoc (n k : Nat) : numL n (k + 1) = numL n k ++ [UInt8.ofNat (n / 256 ^ k)] := by
  simp [numL, List.range_succ]
theorem numL_succ (n k : Nat) : numL n (k + 1) = UInt8.ofNat n :: numL (n / 256) k := by
  simp only [numL, List.range_succ_eq_map, List.map_cons, List.map_map]
  congr 1
  · simp
  · apply List.map_congr_left
    intro i _
    simp only [Function.comp]
    rw [Nat.pow_succ, Nat.div_div_eq_div_mul, Nat.mul_comm]
theorem numL_take (n k m : Nat) (h : m ≤ k) : (numL n k).take m = numL n m := by
  simp only [numL, ← List.map_take, List.take_range, Nat.min_eq_left h]

theorem valL_numL (n k : Nat) : valL (numL n k) = n % 256 ^ k := by
  induction k generalizing n with
  | zero => simp [numL, valL, Nat.mod_one]
  | succ k ih =>
    rw [numL_succ, valL_cons, ih, Nat.pow_succ, Nat.mul_comm (256 ^ k) 256, Nat.mod_mul]
    simp

/-- a byte or'ed above what is less than its place -/
theorem or_shl (l : List UInt8) (b : UInt8) (h : l.length < 8) :
    bits .or .u64 (valL l : Int) (IntKind.u64.wrap (IntKind.u64.wrap (b.toNat : Int) * 2 ^ (8 * l.length))) = (valL (l ++ [b]) : Int) := by
  have hb := b.toNat_lt
  have hl := valL_lt l
  have hp : 256 ^ l.length * 256 ≤ 18446744073709551616 := by
    rw [← Nat.pow_succ]; exact pow_le8 _ (by omega)
  have hm : b.toNat * 256 ^ l.length < 18446744073709551616 := by
    have : b.toNat * 256 ^ l.length < 256 * 256 ^ l.length := Nat.mul_lt_mul_of_pos_right hb (Nat.pow_pos (by omega))
    omega
  have e1 : IntKind.u64.wrap (b.toNat : Int) = (b.toNat : Int) := by rw [IntKind.wrap_u64]; omega
  have e2 : ((b.toNat : Int) * 2 ^ (8 * l.length)) = ((b.toNat * 256 ^ l.length : Nat) : Int) := by
    rw [Int.natCast_mul, ← pow8]; simp
  rw [e1, e2]
  have e3 : IntKind.u64.wrap ((b.toNat * 256 ^ l.length : Nat) : Int) = ((b.toNat * 256 ^ l.length : Nat) : Int) := by
    rw [IntKind.wrap_u64]; omega
  rw [e3, bits_or_u64_nat _ _ (by omega) hm, valL_snoc]
  congr 1
  rw [Nat.or_comm, ← pow8, Nat.mul_comm b.toNat, ← Nat.two_pow_add_eq_or_of_lt (by rw [pow8]; exact hl)]
  omega

/-- a byte times its place's worth, added -/
theorem add_mul (l : List UInt8) (b : UInt8) (h : l.length < 8) :
    IntKind.u64.wrap ((valL l : Int) + IntKind.u64.wrap ((256 ^ l.length : Int) % 18446744073709551616 * IntKind.u64.wrap (b.toNat : Int))) = (valL (l ++ [b]) : Int) := by
  have hb := b.toNat_lt
  have hl := valL_lt64 (l ++ [b]) (by simp; omega)
  have hp : 256 ^ l.length * 256 ≤ 18446744073709551616 := by
    rw [← Nat.pow_succ]; exact pow_le8 _ (by omega)
  have hpos : 0 < 256 ^ l.length := Nat.pow_pos (by omega)
  have e1 : IntKind.u64.wrap (b.toNat : Int) = (b.toNat : Int) := by rw [IntKind.wrap_u64]; omega
  have e2 : ((256 : Int) ^ l.length) = ((256 ^ l.length : Nat) : Int) := by simp
  rw [valL_snoc] at hl ⊢
  rw [e1, e2]
  have e3 : ((256 ^ l.length : Nat) : Int) % 18446744073709551616 = ((256 ^ l.length : Nat) : Int) := by omega
  have e4 : ((256 ^ l.length : Nat) : Int) * (b.toNat : Int) = ((b.toNat * 256 ^ l.length : Nat) : Int) := by
    rw [Int.natCast_mul, Int.mul_comm]
  rw [e3, e4, IntKind.wrap_u64, IntKind.wrap_u64]
  generalize b.toNat * 256 ^ l.length = x at *
  omega
theorem pow_step (k : Nat) : IntKind.u64.wrap ((256 ^ k : Int) % 18446744073709551616 * 256) = ((256 ^ (k + 1) % 18446744073709551616 : Nat) : Int) := by
  have e2 : ((256 : Int) ^ k) = ((256 ^ k : Nat) : Int) := by simp
  rw [e2, IntKind.wrap_u64, Nat.pow_succ]
  generalize 256 ^ k = x at *
  omega
/-- the byte that the plain answer lays, and what is left of the number -/
theorem byte_step (n j : Nat) : UInt8.ofNat (((n : Int) / 256 ^ j).tmod 256 % 256).toNat = UInt8.ofNat (n / 256 ^ j) := by
  have e : (n : Int) / 256 ^ j = ((n / 256 ^ j : Nat) : Int) := by simp
  rw [e]
  generalize n / 256 ^ j = x
  rw [Int.tmod_eq_emod_of_nonneg (by omega)]
  have : (((x : Int) % 256 % 256).toNat) = x % 256 := by omega
  rw [this]
  apply UInt8.toNat_inj.1
  simp
theorem div_step (n j : Nat) (hn : n < 2 ^ 64) : IntKind.u64.wrap (((n : Int) / 256 ^ j).tdiv 256) = ((n / 256 ^ (j + 1) : Nat) : Int) := by
  have e : (n : Int) / 256 ^ j = ((n / 256 ^ j : Nat) : Int) := by simp
  have hx : n / 256 ^ j < 2 ^ 64 := Nat.lt_of_le_of_lt (Nat.div_le_self _ _) hn
  rw [e, Nat.pow_succ, ← Nat.div_div_eq_div_mul]
  generalize n / 256 ^ j = x at *
  rw [Int.tdiv_eq_ediv_of_nonneg (by omega), IntKind.wrap_u64]
  omega
theorem ba_append (a b : List UInt8) : (⟨a.toArray⟩ : ByteArray) ++ ⟨b.toArray⟩ = ⟨(a ++ b).toArray⟩ := by
  apply ByteArray.ext
  simp
theorem ba_snoc (n j : Nat) : (⟨(numL n j).toArray⟩ : ByteArray) ++ ⟨#[UInt8.ofNat (((n : Int) / 256 ^ j).tmod 256 % 256).toNat]⟩ = ⟨(numL n (j + 1)).toArray⟩ := by
  rw [byte_step, numL_snoc]
  exact ba_append _ [_]

end WideP
end Go.Proofs.YtlembfhdljmcoaaDoor

/-
  Contracts of wide.Num, wide.Val and the plain answers' Num, Val, Low, High.
-/
namespace Go.Proofs.YtlembfhdljmcoaaDoor
open Go.RowKit WideP

theorem ret_u64 {a b : Nat} (h : a = b) : Ending.returned (.int .u64 a) = .returned (.int .u64 b) := by rw [h]
theorem take_snoc (s : ByteArray) (k : Nat) (h : k < s.size) : s.data.toList.take (k + 1) = s.data.toList.take k ++ [s[k]] := by
  rw [List.take_succ_eq_append_getElem (by simpa using h)]; rfl

theorem numL_get (n k j : Nat) (h : j < (numL n k).length) : ((numL n k)[j].toNat : Int) = (n : Int) / (256 ^ j : Nat) % 256 := by
  simp only [numL, List.getElem_map, List.getElem_range]
  simp

/-- how many bytes Num lays -/
def clampW (k : Int) : Nat := if k ≤ 0 then 0 else if k ≤ 8 then k.toNat else 8

end Go.Proofs.YtlembfhdljmcoaaDoor

/-
  Contracts of the plain answers' Num, Val, Text, Low, High.
-/
namespace Go.Proofs.YtlembfhdljmcoaaDoor
open Go.RowKit WideP

/-- one byte as a text -/
theorem conv_one (w : World) (n : Int) :
    Sem.run Tryd.prog (convert 66 9 (Value.slice (some ⟨w.heap.size, 0, none⟩) 1 1)) (w.alloc (.cells #[.int .u8 n] 5))
    = .ok (.string ⟨#[UInt8.ofNat n.toNat]⟩) (w.alloc (.cells #[.int .u8 n] 5)) := by
  have h := run_convert_bytes_arg (P := Tryd.prog) (w.alloc (.cells #[.int .u8 n] 5)) 66 5 Tryd.underlying66 Tryd.underlying5 w.heap.size 0 1 1 [n] rfl
    (fun i hi => by
      obtain rfl : i = 0 := by omega
      simp [World.cell?_alloc_mark]) 9 Tryd.underlying9
  rw [h]
  rfl

end Go.Proofs.YtlembfhdljmcoaaDoor

/-
  The contract of strings.Builder's WriteString, over a builder that the call itself has made.
-/
namespace Go.Proofs.YtlembfhdljmcoaaDoor
set_option maxRecDepth 20000
open Go.RowKit

namespace Bu
end Bu
end Go.Proofs.YtlembfhdljmcoaaDoor

/-
  Contracts of wide.Texts and of what it lays texts with; of the plain answers' Text, Low, High.
-/
namespace Go.Proofs.YtlembfhdljmcoaaDoor
open Go.RowKit WideP

namespace Tx
/-- texts within a text -/
def textsL (xs : List ByteArray) : List UInt8 := xs.flatMap fun x => numL x.size 4 ++ x.data.toList
theorem textsL_snoc (xs : List ByteArray) (x : ByteArray) : textsL (xs ++ [x]) = textsL xs ++ (numL x.size 4 ++ x.data.toList) := by simp [textsL]

theorem heap_new (w : World) (o : Obj) : (w.alloc o).heap[w.heap.size]? = some o := by
  show (w.heap.push o)[w.heap.size]? = some o
  simp
theorem heap_new_at {w : World} {n : Nat} (o : Obj) (h : n = w.heap.size) : (w.alloc o).heap[n]? = some o := by
  subst h; exact heap_new w o
theorem textsL_take (xs : List ByteArray) (k : Nat) (h : k < xs.length) : textsL (xs.take (k + 1)) = textsL (xs.take k) ++ (numL (xs.getD k ByteArray.empty).size 4 ++ (xs.getD k ByteArray.empty).data.toList) := by
  rw [List.take_succ_eq_append_getElem h, textsL_snoc]
  simp [List.getD, h]
theorem textsL_take_le (xs : List ByteArray) (k : Nat) : (textsL (xs.take k)).length ≤ (textsL xs).length := by
  conv => rhs; rw [← List.take_append_drop k xs]
  unfold textsL
  rw [List.flatMap_append, List.length_append]
  exact Nat.le_add_right _ _

end Tx

namespace Rx
end Rx
end Go.Proofs.YtlembfhdljmcoaaDoor

/-
  Contracts of bytes.Compare and of nib.Less.
-/
namespace Go.Proofs.YtlembfhdljmcoaaDoor
open Go.RowKit

namespace Ni
/-- the bytes of a slice, as the model's entry reads them -/
theorem read_bs {w : World} {a : Option Addr} {n cap : Nat} {l : List UInt8} (h : IsBs w a n cap l) :
    (Extern.Bytes.bytesOf (.slice a n cap)).run Tryd.prog w = .ok ⟨l.toArray⟩ w := by
  have hl := h.len
  rcases a with _ | ad
  · obtain ⟨rfl, rfl, rfl⟩ := h.capNone
    rfl
  · have := Lib.run_loadBytesX (P := Tryd.prog) w (l.map fun b => (b.toNat : Int)) ad .empty (fun j x hj => by
      have hj' : j < n := by
        rcases Nat.lt_or_ge j n with h' | h'
        · exact h'
        · rw [List.getElem?_eq_none (by simp [hl]; exact h')] at hj; cases hj
      obtain ⟨b, off, e, _, hc⟩ := h.at' j hj'
      injection e with e
      subst e
      have e2 : (⟨b, off, none⟩ : Addr).add j = ⟨b, off + j, none⟩ := by unfold Addr.add; split <;> simp_all
      rw [e2, hc]
      have e3 : (l.map fun b => (b.toNat : Int))[j]? = some ((l.getD j 0).toNat : Int) := by simp [List.getD, hl, hj']
      rw [e3] at hj
      injection hj with hj
      rw [hj])
    rw [List.length_map, hl] at this
    show (Extern.Bytes.loadBytes ad n .empty).run Tryd.prog w = _
    rw [this]
    have e : Lib.bytesOf (l.map fun b => (b.toNat : Int)) = l := by
      unfold Lib.bytesOf
      rw [List.map_map]
      conv => rhs; rw [← List.map_id l]
      apply List.map_congr_left
      intro b _
      simp
    rw [e]
    have e4 : (ByteArray.empty.data ++ l.toArray) = l.toArray := by simp
    rw [e4]

theorem cmp_less : ∀ x y : List UInt8, decide (Lib.compareBytes x y < 0) = Op.bytesLess x y
  | [], [] => rfl
  | [], _ :: _ => rfl
  | _ :: _, [] => rfl
  | a :: x, b :: y => by
    have ih := cmp_less x y
    unfold Lib.compareBytes Op.bytesLess
    by_cases h1 : a < b
    · simp [h1]
    · by_cases h2 : b < a
      · have : ¬ a = b := by rintro rfl; exact UInt8.lt_irrefl _ h2
        simp [h1, h2, this]
      · have : a = b := by
          apply UInt8.toNat_inj.1
          have := UInt8.not_lt.1 h1; have := UInt8.not_lt.1 h2
          rw [UInt8.le_iff_toNat_le] at *
          omega
        subst this
        simp [ih]

end Ni
end Go.Proofs.YtlembfhdljmcoaaDoor

/-
  Contracts of sum.Parts, sum.Text, sum.Less, sum.From.
-/
namespace Go.Proofs.YtlembfhdljmcoaaDoor
set_option maxRecDepth 20000
open Go.RowKit

namespace Sm
open Sh
/-- the rounds' numbers lie where they ought to -/
def Tab (w : World) : Prop := ∀ i, i < 64 → w.cell? ⟨0, i, none⟩ = some (.int .u32 (kN i : Nat))
theorem Tab.pos {w : World} (h : Tab w) : 0 < w.heap.size := World.block_lt_of_cell? w _ (h 0 (by omega))
theorem Tab.below {w w' : World} (h : Tab w) {B : Nat} (hb : Below B w w') (hB : 0 < B) : Tab w' := fun i hi => (hb.cell (p := ⟨0, i, none⟩) hB).trans (h i hi)

/-- an array's cells, boxed, as a slice of bytes -/
theorem isBs_kc (w : World) (k : List UInt8) (hk : k.length = 32) : IsBs (w.alloc (.cells (kc k) 43)) (some ⟨w.heap.size, 0, none⟩) 32 32 k := by
  have h := IsBs.new w k (by unfold maxLen; omega) (kc k) 43 rfl
  rw [hk] at h
  exact h

/-- two blocks for a sum, the second one's cells out into the first -/
theorem res_sum {fn : Func} (hfn : fn.results = #[.cell 2 43, .tmp 3]) (tmps : Array Value) (w : World) (g : Nat) (cs : Array Value) (e : Int) (hp : tmps.getD 2 undef = .pointer (some ⟨g, 0, none⟩)) (he : tmps.getD 3 undef = .int .i64 e)
    (hg : w.heap[g]? = some (.cells cs 43 (0, 0))) (hs : cs.size = 32) : (results fn tmps).run Tryd.prog w = .ok (.tuple #[.agg cs, .int .i64 e]) w := by
  rw [results_cell_tmp (fn := fn) (p := 2) (u := 3) (ty := 43) hfn, hp, he]
  have := run_loadVar_row (P := Tryd.prog) w g 43 43 cs (0, 0) _ hg Tryd.underlying43 rfl (by rw [hs]; exact info_sum)
  simp [asAddr, this]

set_option maxHeartbeats 1000000 in
theorem from_short (s : ByteArray) (hs : s.size < 32) (w : World) :
    Calls Tryd.prog 29 #[.string s] w fun e w' => e = .returned (.tuple #[.agg (kc zk), .int .i64 5]) ∧ Below w.heap.size w w' := by
  have H1 : Hid (((w.alloc (.cells (kc zk) 43)).alloc (.cells (kc zk) 43)).heap[w.heap.size]? = some (.cells (kc zk) 43 (0, 0))) := Lib.hid ((Lib.alloc_old _ _ _ (by simp)).trans (heap_alloc_new _ _))
  have H2 : Hid (((w.alloc (.cells (kc zk) 43)).alloc (.cells (kc zk) 43)).heap[w.heap.size + 1]? = some (.cells (kc zk) 43 (0, 0))) := Lib.hid (by have := heap_alloc_new (w.alloc (.cells (kc zk) 43)) (.cells (kc zk) 43); simpa using this)
  have hz : (s.size : Int) < 32 := by omega
  go_enter Tryd.func29, Tryd.ntmps29
  go_wp2_with (first | (refine wpList_run (o := ⟨some 2, _, _, _, _, _⟩) rfl _ _ (run_alloc_sum _ _ rfl _ w.heap.size rfl) ?_) | (refine wpList_run (o := ⟨some 4, _, _, _, _, _⟩) rfl _ _ (run_alloc_sum _ _ rfl _ (w.heap.size + 1) (by simp)) ?_) | (refine wpList_load_row rfl _ _ rfl (w.heap.size + 1) rfl 43 (kc zk) (0, 0) _ H2.out Tryd.underlying43 rfl (info_kc zk rfl) ?_) | (refine wpList_store_rowTo rfl 43 _ _ rfl rfl _ (kc zk) rfl rfl 43 (kc zk) H1.out (info_kc zk rfl) rfl (kc_one _) ?_))
  exact bodyPost_ret (res_sum rfl _ _ _ _ _ rfl rfl (setRow_heap _ _ _ _ _ _ H1.out) rfl) rfl ⟨rfl, below_row (((Below.refl _ _).alloc (Nat.le_refl _) _).alloc (by simp) _) (Nat.le_refl _) _⟩

set_option maxHeartbeats 1000000 in
theorem from_long (s : ByteArray) (hs : 32 < s.size) (hm : s.size ≤ maxLen) (w : World) :
    Calls Tryd.prog 29 #[.string s] w fun e w' => e = .returned (.tuple #[.agg (kc zk), .int .i64 6]) ∧ Below w.heap.size w w' := by
  unfold maxLen at hm
  have H1 : Hid (((w.alloc (.cells (kc zk) 43)).alloc (.cells (kc zk) 43)).heap[w.heap.size]? = some (.cells (kc zk) 43 (0, 0))) := Lib.hid ((Lib.alloc_old _ _ _ (by simp)).trans (heap_alloc_new _ _))
  have H2 : Hid (((w.alloc (.cells (kc zk) 43)).alloc (.cells (kc zk) 43)).heap[w.heap.size + 1]? = some (.cells (kc zk) 43 (0, 0))) := Lib.hid (by have := heap_alloc_new (w.alloc (.cells (kc zk) 43)) (.cells (kc zk) 43); simpa using this)
  have hz : ¬ (s.size : Int) < 32 := by omega
  have hz2 : 32 < (s.size : Int) := by omega
  go_enter Tryd.func29, Tryd.ntmps29
  go_wp2_with (first | (refine wpList_run (o := ⟨some 2, _, _, _, _, _⟩) rfl _ _ (run_alloc_sum _ _ rfl _ w.heap.size rfl) ?_) | (refine wpList_run (o := ⟨some 4, _, _, _, _, _⟩) rfl _ _ (run_alloc_sum _ _ rfl _ (w.heap.size + 1) (by simp)) ?_) | (refine wpList_load_row rfl _ _ rfl (w.heap.size + 1) rfl 43 (kc zk) (0, 0) _ H2.out Tryd.underlying43 rfl (info_kc zk rfl) ?_) | (refine wpList_store_rowTo rfl 43 _ _ rfl rfl _ (kc zk) rfl rfl 43 (kc zk) H1.out (info_kc zk rfl) rfl (kc_one _) ?_))
  exact bodyPost_ret (res_sum rfl _ _ _ _ _ rfl rfl (setRow_heap _ _ _ _ _ _ H1.out) rfl) rfl ⟨rfl, below_row (((Below.refl _ _).alloc (Nat.le_refl _) _).alloc (by simp) _) (Nat.le_refl _) _⟩

set_option maxHeartbeats 1000000 in
theorem from_ok (s : ByteArray) (hs : s.size = 32) (w : World) :
    Calls Tryd.prog 29 #[.string s] w fun e w' => e = .returned (.tuple #[.agg (kc s.data.toList), .int .i64 0]) ∧ Below w.heap.size w w' := by
  have hl : s.data.toList.length = 32 := by simpa using hs
  have h1 : ((w.alloc (.cells (kc zk) 43)).alloc (.cells (kc zk) 43)).heap[w.heap.size]? = some (.cells (kc zk) 43 (0, 0)) := (Lib.alloc_old _ _ _ (by simp)).trans (heap_alloc_new _ _)
  have h2 : ((w.alloc (.cells (kc zk) 43)).alloc (.cells (kc zk) 43)).heap[w.heap.size + 1]? = some (.cells (kc zk) 43 (0, 0)) := by have := heap_alloc_new (w.alloc (.cells (kc zk) 43)) (.cells (kc zk) 43); simpa using this
  have hcp := Lib.run_copy_row_string (P := Tryd.prog) _ 66 9 3 5 (w.heap.size + 1) 0 32 32 s (kc zk) 43 Tryd.underlying66 (by kernel_rfl) h2 (by omega) (by rw [kc_size, zk_length]; omega)
  have e : (List.take 0 (kc zk).toList ++ Lib.byteCells s.data.toList ++ List.drop (0 + s.size) (kc zk).toList).toArray = kc s.data.toList := by
    rw [List.drop_of_length_le (by rw [hs]; simp [kc_size, zk_length])]
    simp [kc, Lib.byteCells]
  rw [e] at hcp
  have H1 : Hid ((((w.alloc (.cells (kc zk) 43)).alloc (.cells (kc zk) 43)).setRow (w.heap.size + 1) (kc s.data.toList)).heap[w.heap.size]? = some (.cells (kc zk) 43 (0, 0))) := Lib.hid ((setRow_other _ _ _ _ (by omega)).trans h1)
  have H2 : Hid ((((w.alloc (.cells (kc zk) 43)).alloc (.cells (kc zk) 43)).setRow (w.heap.size + 1) (kc s.data.toList)).heap[w.heap.size + 1]? = some (.cells (kc s.data.toList) 43 (0, 0))) := Lib.hid (setRow_heap _ _ _ _ _ _ h2)
  have hz : ¬ (s.size : Int) < 32 := by omega
  have hz2 : ¬ 32 < (s.size : Int) := by omega
  obtain ⟨K, hK⟩ : ∃ K, s.data.toList = K := ⟨_, rfl⟩
  rw [hK] at hcp H1 H2 hl ⊢
  have HKl := Lib.hid hl
  have HCP := Lib.hid hcp
  clear h1 h2 e hK hl hs hcp
  go_enter Tryd.func29, Tryd.ntmps29
  go_wp2_with (first | (refine wpList_run (o := ⟨some 2, _, _, _, _, _⟩) rfl _ _ (run_alloc_sum _ _ rfl _ w.heap.size rfl) ?_) | (refine wpList_run (o := ⟨some 4, _, _, _, _, _⟩) rfl _ _ (run_alloc_sum _ _ rfl _ (w.heap.size + 1) (by simp)) ?_))
  rw [HCP.out]
  go_wp2_with (first | (refine wpList_load_row rfl _ _ rfl (w.heap.size + 1) rfl 43 (kc K) (0, 0) _ H2.out Tryd.underlying43 rfl (info_kc K HKl.out) ?_) | (refine wpList_store_rowTo rfl 43 _ _ rfl rfl _ (kc K) rfl rfl 43 (kc zk) H1.out (info_kc K HKl.out) (by rw [kc_size, kc_size, HKl.out]; rfl) (kc_one _) ?_))
  exact bodyPost_ret (res_sum rfl _ _ _ _ _ rfl rfl (setRow_heap _ _ _ _ _ _ H1.out) (by rw [kc_size]; exact HKl.out)) rfl ⟨rfl, below_row (below_row (((Below.refl _ _).alloc (Nat.le_refl _) _).alloc (by simp) _) (by omega) _) (Nat.le_refl _) _⟩
end Sm
end Go.Proofs.YtlembfhdljmcoaaDoor
