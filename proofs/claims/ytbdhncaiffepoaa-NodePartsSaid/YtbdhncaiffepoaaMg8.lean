/-
  Contracts of node.stand, node.item, node.Put.
-/
import Derived.Test.YtbdhncaiffepoaaMg7
import Derived.Test.YtbdhncaiffepoaaMg3
import Derived.Deep.MidRow
import Derived.Test.YtbdhncaiffepoaaMg4
namespace Go.Proofs.Ytbdhncaiffepoaa
set_option maxRecDepth 100000
open Go.RowKit

namespace No
open Rl Ni
theorem run_alloc_it (ev : Operand → Value) (o : Oper) (w : World) (b : Nat) (hb : b = w.heap.size) (ho : o.op = .alloc 48) :
    (execOp ev o).run Try.prog w = .ok (.value (.pointer (some ⟨b, 0, none⟩))) (w.alloc (.cells (itC it0 none 0 0) 48)) := by
  subst hb
  unfold execOp
  rw [ho]
  kernel_rfl
set_option maxHeartbeats 4000000 in
theorem stand_any (k : ByteArray) (hk : k.size ≤ 9223372036854775807) (w : World) : Calls Try.prog 47 #[.string k] w (GotIt w (refI k)) := by
  obtain ⟨w2, hw2⟩ : ∃ w2, w2 = w.alloc (.cells (itC it0 none 0 0) 48) := ⟨_, rfl⟩
  have hO : Rg.Own w2 w.heap.size (itC it0 none 0 0) 48 := by rw [hw2]; exact Rg.Own.new _ _ _
  have HB2 : Hid (Below w.heap.size w w2) := Lib.hid (by rw [hw2]; exact al1 _ _)
  have HO := Lib.hid hO
  have HP := Lib.hid (plain_any k w2)
  cases hp : plainB k with
  | true =>
    rw [refI_plain hp]
    rw [hp] at HP
    have HT := Lib.hid (text_any k w2)
    clear hO hp
    subst hw2
    go_enter Try.func47, Try.ntmps47
    go_wp2_with (refine Rg.run rfl _ _ (run_alloc_it _ _ _ w.heap.size rfl rfl) ?_)
    refine HP.out.mono ?_
    rintro e w3 ⟨rfl, rfl⟩
    go_wp2_with fail
    refine HT.out.mono ?_
    rintro e w4 ⟨rfl, hb4⟩
    have HO4 := Lib.hid (HO.out.below hb4)
    have HB4 := Lib.hid (below_step' HB2.out hb4)
    clear hb4
    go_wp2_with (refine wpl_store_it HO4.out (.mk false k []) none 0 0 rfl _ _ rfl rfl rfl rfl ?_)
    exact bodyPost_ret (res_item rfl _ rfl (lies_row (own_rowI HO4.out).2)) rfl ⟨none, 0, 0, rfl, ItsIn.nil _ _, below_row HB4.out (Nat.le_refl _) _⟩
  | false =>
    rw [hp] at HP
    have HR : Hid (refI k = match wholeL k.data.toList with | .ok x => x | .error _ => it0) := Lib.hid (by unfold refI; rw [hp]; rfl)
    have HW := Lib.hid (whole_any k hk w2)
    have hcases : Hid (∀ e w', WholePost w2 (wholeL k.data.toList) e w' → ∃ (c : Int) (a : Option Addr) (nn cap : Nat), e = .returned (.tuple #[itV (refI k) a nn cap, .int .i64 c]) ∧ ItsIn w2.heap.size w' (refI k).xs a nn cap ∧ Below w2.heap.size w2 w') := Lib.hid (by
      intro e w' h
      rw [HR.out]
      cases hw : wholeL k.data.toList with
      | error c =>
        rw [hw] at h
        obtain ⟨rfl, hb⟩ := h
        exact ⟨c, none, 0, 0, rfl, ItsIn.nil _ _, hb⟩
      | ok x =>
        rw [hw] at h
        obtain ⟨a, nn, cap, rfl, hI, hb⟩ := h
        exact ⟨0, a, nn, cap, rfl, hI, hb⟩)
    obtain ⟨x, hx⟩ : ∃ x, refI k = x := ⟨_, rfl⟩
    rw [hx] at hcases ⊢
    clear hO hp HR hx
    subst hw2
    go_enter Try.func47, Try.ntmps47
    go_wp2_with (refine Rg.run rfl _ _ (run_alloc_it _ _ _ w.heap.size rfl rfl) ?_)
    refine HP.out.mono ?_
    rintro e w3 ⟨rfl, rfl⟩
    go_wp2_with fail
    refine HW.out.mono ?_
    intro e w4 hpost
    obtain ⟨c, a, nn, cap, rfl, hI, hb4⟩ := hcases.out e w4 hpost
    have HO4 := Lib.hid (HO.out.below hb4)
    have HB4 := Lib.hid (below_step' HB2.out hb4)
    have HI4 := Lib.hid hI
    have HN4 : Hid (Rg.Own (w4.alloc (.cells (itC it0 none 0 0) 48)) w4.heap.size (itC it0 none 0 0) 48) := Lib.hid (Rg.Own.new _ _ _)
    have HN5 := Lib.hid (own_rowI (cs' := itC x a nn cap) HN4.out)
    have hB5 : Below w4.heap.size w4 ((w4.alloc (.cells (itC it0 none 0 0) 48)).setRow w4.heap.size (itC x a nn cap)) := below_row (al1 _ _) (Nat.le_refl _) _
    have HO5 := Lib.hid (HO4.out.below hB5)
    have HB5 := Lib.hid (below_step' HB4.out hB5)
    have HI5 := Lib.hid (HI4.out.stays hB5)
    clear hpost hI hb4 hcases HP HW hB5
    go_wp2_with (first
      | (refine Rg.run rfl _ _ (run_alloc_it _ _ _ w4.heap.size rfl rfl) ?_)
      | (refine wpl_store_it HN4.out x a nn cap rfl _ _ rfl rfl rfl rfl ?_)
      | (refine Rg.run rfl _ _ (op_load_it HN5.out ?_) ?_; · exact ⟨_, rfl, rfl⟩)
      | (refine wpl_store_it HO5.out x a nn cap rfl _ _ rfl rfl rfl rfl ?_))
    exact bodyPost_ret (res_item rfl _ rfl (lies_row (own_rowI HO5.out).2)) rfl ⟨a, nn, cap, rfl, ItsIn.weak (ItsIn_row HI5.out (by simp) _) (by simp), below_row HB5.out (Nat.le_refl _) _⟩

/-- Pack of a path that may be -/
theorem pack_any (a : Option Addr) (n c : Nat) (l : List UInt8) (leaf : Bool) (hn : n ≤ 64) (hr : rightB l = true) (w : World) (h : IsBs w a n c l) :
    Calls Try.prog 49 #[.slice a n c, .bool leaf] w fun e w' => e = .returned (.tuple #[.string ⟨(packL l leaf).toArray⟩, .int .i64 0]) ∧ Below w.heap.size w w' := by
  by_cases h2 : n % 2 = 0
  · exact pack_even a n c l leaf hn h2 hr w h
  · cases a with
    | none =>
      obtain ⟨rfl, _, _⟩ := h.capNone
      exact absurd rfl h2
    | some ad =>
      obtain ⟨b, off, e, _, _⟩ := h.at' 0 (by omega)
      obtain rfl := Option.some.inj e
      exact pack_odd b off n c l leaf hn (by omega) hr w h
/-- a slice of two items is made -/
theorem meetPair {o : Oper} {a : Act} {w : World} {K : Act → World → Prop} {Q : Exit → Act → World → Prop} {ops : Array Oper} {x y : It} {A D : Option Addr} {An Ac Dn Dc : Nat} (hw : Region.wanted o (yielded ops a.tmps) = true)
    (ho : ∃ p q, o.op = .buildSlice 46 2 #[(0, p), (1, q)] ∧ a.eval p = .agg #[.bool x.l, .string x.s, .slice A An Ac] ∧ a.eval q = .agg #[.bool y.l, .string y.s, .slice D Dn Dc])
    (h : ∀ w' b, Rg.Own w' b #[.bool x.l, .string x.s, .slice A An Ac, .bool y.l, .string y.s, .slice D Dn Dc] 48 → Below w.heap.size w w' → K (a.put o.dst (.slice (some ⟨b, 0, none⟩) 2 2)) w') : if Region.wanted o (yielded ops a.tmps) = true then Oper.wp Try.prog o a w K Q else K (a.put o.dst undef) w := by
  obtain ⟨p, q, ho, hp, hq⟩ := ho
  obtain ⟨i0, hi, hz, hs, hby⟩ := info_parts info_it_all
  refine Rg.want hw (wp_buildSlice 46 48 2 _ ho #[.bool x.l, .string x.s, .slice A An Ac, .bool y.l, .string y.s, .slice D Dn Dc] i0 _ Try.underlying46 hi hz (by rw [hs]; decide) (by rw [hs]; decide) ?_ (h _ _ (Rg.Own.new _ _ _) (al1 _ _)))
  simp only [List.map_toArray, List.map_cons, List.map_nil, hp, hq, hs]
  kernel_rfl
/-- what is kept while items are made: a cell of the node, the result's cells -/
def SI (w : World) (o : Nat) (v : Value) (w' : World) : Prop := w'.cell? ⟨w.heap.size, o, none⟩ = some v ∧ (∃ cs : Array Value, cs.size = 3 ∧ Rg.Own w' (w.heap.size + 1) cs 48) ∧ Below w.heap.size w w'
theorem SI.lt {w w1 : World} {o : Nat} {v : Value} (h : SI w o v w1) : w.heap.size + 1 < w1.heap.size := by
  obtain ⟨_, ⟨_, _, h⟩, _⟩ := h
  exact h.1
theorem SI.keep {w w1 w2 : World} {o : Nat} {v : Value} (h : SI w o v w1) (hb : Below w1.heap.size w1 w2) : SI w o v w2 := by
  have hlt := h.lt
  obtain ⟨h0, ⟨cs, hcs, h1⟩, h2⟩ := h
  exact ⟨(Below.cell (p := ⟨w.heap.size, o, none⟩) hb (by show w.heap.size < w1.heap.size; omega)).trans h0, ⟨cs, hcs, h1.below hb⟩, below_step' h2 hb⟩
/-- the world behind the first two blocks -/
theorem two_blocks (w : World) (N : Nd) (a : Option Addr) (n c : Nat) : ∃ w2, w2 = (w.alloc (.cells (ndC N a n c) 25)).alloc (.cells (itC it0 none 0 0) 48) ∧ OwnN w2 w.heap.size N a n c ∧ Rg.Own w2 (w.heap.size + 1) (itC it0 none 0 0) 48 ∧ Below w.heap.size w w2 ∧ w2.heap.size = w.heap.size + 2 := by
  refine ⟨_, rfl, (Rg.Own.new _ _ _).below (al1 _ _), ?_, al2 _ _ _, by simp⟩
  have := Rg.Own.new (w.alloc (.cells (ndC N a n c) 25)) (itC it0 none 0 0) 48
  simpa using this
theorem size_one (w : World) (o : Obj) : (w.alloc o).heap.size = w.heap.size + 1 := by simp
set_option maxHeartbeats 16000000 in
theorem item_leaf (N : Nd) (a : Option Addr) (n c : Nat) (_hl : N.ks.length = 16) (w : World) (hB : IsBs w a n c N.p) (hm : mayW refP N = true) (hkd : N.kd = 1) : Calls Try.prog 24 #[.agg (ndC N a n c)] w (GotIt w (itemP N)) := by
  obtain ⟨m1, m2, _⟩ := may_parts hm
  have hn64 : n ≤ 64 := by rw [← hB.len]; exact m1
  obtain ⟨w2, hw2, hN, hO, hBe, hs2⟩ := two_blocks w N a n c
  have HPk := Lib.hid (pack_any a n c N.p (decide (N.kd = 1)) hn64 m2 w2 (hB.below hBe))
  have HI : Hid (itemP N = .mk true ⟨#[]⟩ [.mk false ⟨(packL N.p (decide (N.kd = 1))).toArray⟩ [], .mk false N.v []]) := Lib.hid (by unfold itemP itemsP pathI; rw [if_neg (by omega), if_pos hkd])
  rw [HI.out]
  clear HI
  obtain ⟨S, hS⟩ : ∃ S, (⟨(packL N.p (decide (N.kd = 1))).toArray⟩ : ByteArray) = S := ⟨_, rfl⟩
  rw [hS] at HPk ⊢
  rw [hkd] at HPk
  rw [show decide ((1 : Int) = 1) = true by decide] at HPk
  obtain ⟨c0, c1, c2⟩ := nd_cells hN
  rw [hkd] at c0
  have HK0 := Lib.hid hkd
  have HO := Lib.hid hO
  have HN := Lib.hid hN
  have HB := Lib.hid hBe
  clear hO hN hBe hB hm m1 m2 hS hkd
  subst hw2
  go_enter Try.func24, Try.ntmps24
  go_wp2_with (refine Rg.run rfl _ _ (run_alloc_it _ _ _ (w.heap.size + 1) (size_one _ _).symm rfl) ?_)
  refine HPk.out.mono ?_
  rintro e w5 ⟨rfl, hb5⟩
  have HO5 := Lib.hid (HO.out.below hb5)
  have HB5 := Lib.hid (below_step' HB.out hb5)
  have hN5 := HN.out.below hb5
  obtain ⟨c0, c1, c2⟩ := nd_cells hN5
  clear hb5 hN5 HPk
  rw [HK0.out] at c0
  go_wp2_with fail
  refine wp_region_noPanic ?_
  refine wp_region_held_drew (S := SI w 2 (.string N.v)) (by kernel_rfl) (⟨c2, ⟨_, rfl, HO5.out.drew⟩, HB5.out.drew⟩) (fun hHeld => ?_)
  refine Rg.takeL (i := 0) (v := ?_) rfl (by kernel_rfl) (by kernel_rfl) (by kernel_rfl) (fun _ _ _ h => h) (Or.inl ⟨by rfl, ?_⟩) (by assumption) ?_
  rotate_left
  · (intro wz hSw; (try dsimp only at hSw); go_simp <;> with_reducible rfl)
  try simp only [Act.put, List.setIfInBounds_toArray, List.set_cons_zero, List.set_cons_succ]
  refine Rg.takeL (i := 2) (v := ?_) rfl (by kernel_rfl) (by kernel_rfl) (by kernel_rfl) (fun _ _ _ h => h) (Or.inl ⟨by rfl, ?_⟩) (by assumption) ?_
  rotate_left
  · (intro wz hSw; (try dsimp only at hSw); go_simp <;> with_reducible rfl)
  try simp only [Act.put, List.setIfInBounds_toArray, List.set_cons_zero, List.set_cons_succ]
  refine Rg.takeL (i := 3) (v := ?_) rfl (by kernel_rfl) (by kernel_rfl) (by kernel_rfl) (fun _ _ _ h => h) (Or.inl ⟨by rfl, ?_⟩) (by assumption) ?_
  rotate_left
  · (intro wz hSw; (have q0 := hSw.1; go_simp <;> with_reducible rfl))
  try simp only [Act.put, List.setIfInBounds_toArray, List.set_cons_zero, List.set_cons_succ]
  refine wpAnyH_ready (rs := [1]) (by kernel_rfl) (by simp) ?_
  refine Rg.readyL (i := 1) rfl (fun K hK => ?_)
  go_simp
  go_at_call 50
  (with_reducible refine (text_any S _).mono ?_)
  rintro e wx0 ⟨rfl, hbx⟩
  refine hK.out _ _ ?_ (fun hHeld => ?_)
  · exact SI.keep hHeld hbx
  clear hK K hbx
  try simp only [Act.put, List.setIfInBounds_toArray, List.set_cons_zero, List.set_cons_succ]
  refine wpAnyH_ready (rs := [4]) (by kernel_rfl) (by simp) ?_
  refine Rg.readyL (i := 4) rfl (fun K hK => ?_)
  go_simp
  go_at_call 50
  (with_reducible refine (text_any N.v _).mono ?_)
  rintro e wx1 ⟨rfl, hbx⟩
  refine hK.out _ _ ?_ (fun hHeld => ?_)
  · exact SI.keep hHeld hbx
  clear hK K hbx
  try simp only [Act.put, List.setIfInBounds_toArray, List.set_cons_zero, List.set_cons_succ]
  refine wpAnyH_ready (rs := [5]) (by kernel_rfl) (by simp) ?_
  refine Rg.readyL (i := 5) rfl (fun K hK => ?_)
  refine meetPair (x := .mk false S []) (y := .mk false N.v []) (by rfl) ⟨_, _, rfl, rfl, rfl⟩ ?_
  rintro wx2 g5 h5 hbx
  refine hK.out _ _ ?_ (fun hHeld => ?_)
  · exact SI.keep hHeld hbx
  clear hK K hbx
  try simp only [Act.put, List.setIfInBounds_toArray, List.set_cons_zero, List.set_cons_succ]
  refine wpAnyH_ready (rs := [6]) (by kernel_rfl) (by simp) ?_
  refine Rg.readyL (i := 6) rfl (fun K hK => ?_)
  have HLs := Lib.hid (list_any [.mk false S [], .mk false N.v []] _ _ _ _ (two_its h5 (its_nil _ (.mk false S []) rfl) (its_nil _ (.mk false N.v []) rfl)))
  go_simp
  go_at_call 48
  (with_reducible refine HLs.out.mono ?_)
  rintro e wx3 ⟨la, ln, lc, rfl, hIl, hbx⟩
  replace hIl := ItsIn.weak (B' := w.heap.size + 2) hIl (by have := hHeld.lt; omega)
  refine hK.out _ _ ?_ (fun hHeld => ?_)
  · exact SI.keep hHeld hbx
  clear hK K hbx HLs
  try simp only [Act.put, List.setIfInBounds_toArray, List.set_cons_zero, List.set_cons_succ]
  refine wpAnyH_ready (rs := [7]) (by kernel_rfl) (by simp) ?_
  refine Rg.readyL (i := 7) rfl (fun K hK => ?_)
  obtain ⟨cs, hcs, hOr⟩ := hHeld.2.1
  refine Rg.meetStore (by rfl) hOr 48 (itC (.mk true ⟨#[]⟩ [.mk false S [], .mk false N.v []]) la ln lc) ⟨_, _, rfl, rfl, rfl⟩ (info_itC _ _ _ _) (by rw [hcs]; rfl) (itC_one _ _ _ _) ?_
  rintro wz hn hu
  have hBz : Below w.heap.size w wz := hu.below hHeld.2.2 (by omega)
  have hIz := ItsIn.kept hIl (by rw [hu.size]; exact Nat.le_refl _) (fun b o hB _ => World.cell?_of_block (hu.block b (by omega)))
  have hcz := (World.cell?_of_block (a := ⟨w.heap.size, 2, none⟩) (hu.block w.heap.size (by omega))).trans hHeld.1
  refine hK.out _ _ ?_ (fun hHeld => ?_)
  · exact ⟨hcz, ⟨_, rfl, hn⟩, hBz⟩
  clear hK K
  try simp only [Act.put]
  refine wpAnyH_done (by kernel_rfl) ?_ _
  refine NoPanic.normal ?_
  go_wp2
  exact bodyPost_ret (res_item rfl _ rfl (lies_row hn.2)) rfl ⟨la, ln, lc, rfl, ItsIn.weak hIz (by omega), hBz⟩
set_option maxHeartbeats 16000000 in
theorem item_ext (N : Nd) (a : Option Addr) (n c : Nat) (hl : N.ks.length = 16) (w : World) (hB : IsBs w a n c N.p) (hm : mayW refP N = true) (hkd : N.kd = 2) (hks : (N.ks.getD 0 eB).size ≤ 100) : Calls Try.prog 24 #[.agg (ndC N a n c)] w (GotIt w (itemP N)) := by
  obtain ⟨m1, m2, _⟩ := may_parts hm
  have hn64 : n ≤ 64 := by rw [← hB.len]; exact m1
  obtain ⟨w2, hw2, hN, hO, hBe, hs2⟩ := two_blocks w N a n c
  have HPk := Lib.hid (pack_any a n c N.p (decide (N.kd = 1)) hn64 m2 w2 (hB.below hBe))
  have HI : Hid (itemP N = .mk true ⟨#[]⟩ [.mk false ⟨(packL N.p (decide (N.kd = 1))).toArray⟩ [], refI (N.ks.getD 0 eB)]) := Lib.hid (by unfold itemP itemsP pathI; rw [if_neg (by omega), if_neg (by omega)])
  rw [HI.out]
  clear HI
  obtain ⟨S, hS⟩ : ∃ S, (⟨(packL N.p (decide (N.kd = 1))).toArray⟩ : ByteArray) = S := ⟨_, rfl⟩
  rw [hS] at HPk ⊢
  rw [hkd] at HPk
  rw [show decide ((2 : Int) = 1) = false by decide] at HPk
  obtain ⟨c0, c1, c2⟩ := nd_cells hN
  rw [hkd] at c0
  have HK0 := Lib.hid hkd
  have HLL := Lib.hid hl
  have HSt := Lib.hid (fun w => stand_any (N.ks.getD 0 eB) (by omega) w)
  obtain ⟨X, hX⟩ : ∃ X, refI (N.ks.getD 0 eB) = X := ⟨_, rfl⟩
  rw [hX] at HSt ⊢
  obtain ⟨k, hk⟩ : ∃ k, N.ks.getD 0 eB = k := ⟨_, rfl⟩
  rw [hk] at HSt
  have Hk := Lib.hid hk
  clear hX hk hks
  have HO := Lib.hid hO
  have HN := Lib.hid hN
  have HB := Lib.hid hBe
  clear hO hN hBe hB hm m1 m2 hS hkd
  subst hw2
  go_enter Try.func24, Try.ntmps24
  go_wp2_with (refine Rg.run rfl _ _ (run_alloc_it _ _ _ (w.heap.size + 1) (size_one _ _).symm rfl) ?_)
  refine HPk.out.mono ?_
  rintro e w5 ⟨rfl, hb5⟩
  have HO5 := Lib.hid (HO.out.below hb5)
  have HB5 := Lib.hid (below_step' HB.out hb5)
  have hN5 := HN.out.below hb5
  obtain ⟨c0, c1, c2⟩ := nd_cells hN5
  have ck : w5.cell? ⟨w.heap.size, 3, none⟩ = some (.string k) := by rw [← Hk.out]; exact nd_kid hN5 HLL.out 0 (by decide)
  clear hb5 hN5 HPk
  rw [HK0.out] at c0
  go_wp2_with fail
  refine wp_region_noPanic ?_
  refine wp_region_held_drew (S := SI w 3 (.string k)) (by kernel_rfl) (⟨ck, ⟨_, rfl, HO5.out.drew⟩, HB5.out.drew⟩) (fun hHeld => ?_)
  refine Rg.takeL (i := 0) (v := ?_) rfl (by kernel_rfl) (by kernel_rfl) (by kernel_rfl) (fun _ _ _ h => h) (Or.inl ⟨by rfl, ?_⟩) (by assumption) ?_
  rotate_left
  · (intro wz hSw; (try dsimp only at hSw); go_simp <;> with_reducible rfl)
  try simp only [Act.put, List.setIfInBounds_toArray, List.set_cons_zero, List.set_cons_succ]
  refine Rg.takeL (i := 2) (v := ?_) rfl (by kernel_rfl) (by kernel_rfl) (by kernel_rfl) (fun _ _ _ h => h) (Or.inl ⟨by rfl, ?_⟩) (by assumption) ?_
  rotate_left
  · (intro wz hSw; (try dsimp only at hSw); go_simp <;> with_reducible rfl)
  try simp only [Act.put, List.setIfInBounds_toArray, List.set_cons_zero, List.set_cons_succ]
  refine Rg.takeL (i := 3) (v := ?_) rfl (by kernel_rfl) (by kernel_rfl) (by kernel_rfl) (fun _ _ _ h => h) (Or.inl ⟨by rfl, ?_⟩) (by assumption) ?_
  rotate_left
  · (intro wz hSw; (try dsimp only at hSw); go_simp <;> with_reducible rfl)
  try simp only [Act.put, List.setIfInBounds_toArray, List.set_cons_zero, List.set_cons_succ]
  refine Rg.takeL (i := 4) (v := ?_) rfl (by kernel_rfl) (by kernel_rfl) (by kernel_rfl) (fun _ _ _ h => h) (Or.inl ⟨by rfl, ?_⟩) (by assumption) ?_
  rotate_left
  · (intro wz hSw; (have q0 := hSw.1; go_simp <;> with_reducible rfl))
  try simp only [Act.put, List.setIfInBounds_toArray, List.set_cons_zero, List.set_cons_succ]
  refine wpAnyH_ready (rs := [1]) (by kernel_rfl) (by simp) ?_
  refine Rg.readyL (i := 1) rfl (fun K hK => ?_)
  go_simp
  go_at_call 50
  (with_reducible refine (text_any S _).mono ?_)
  rintro e wx0 ⟨rfl, hbx⟩
  refine hK.out _ _ ?_ (fun hHeld => ?_)
  · exact SI.keep hHeld hbx
  clear hK K hbx
  try simp only [Act.put, List.setIfInBounds_toArray, List.set_cons_zero, List.set_cons_succ]
  refine wpAnyH_ready (rs := [5]) (by kernel_rfl) (by simp) ?_
  refine Rg.readyL (i := 5) rfl (fun K hK => ?_)
  go_simp
  go_at_call 47
  (with_reducible refine (HSt.out _).mono ?_)
  rintro e wx1 ⟨kA, kN, kC, rfl, hIk, hbx⟩
  replace hIk := ItsIn.weak (B' := 0) hIk (Nat.zero_le _)
  refine hK.out _ _ ?_ (fun hHeld => ?_)
  · exact SI.keep hHeld hbx
  clear hK K hbx
  try simp only [Act.put, List.setIfInBounds_toArray, List.set_cons_zero, List.set_cons_succ]
  refine wpAnyH_ready (rs := [6]) (by kernel_rfl) (by simp) ?_
  refine Rg.readyL (i := 6) rfl (fun K hK => ?_)
  refine meetPair (x := .mk false S []) (y := X) (by rfl) ⟨_, _, rfl, rfl, rfl⟩ ?_
  rintro wx2 g5 h5 hbx
  replace hIk := ItsP.stays hIk hbx
  refine hK.out _ _ ?_ (fun hHeld => ?_)
  · exact SI.keep hHeld hbx
  clear hK K hbx
  try simp only [Act.put, List.setIfInBounds_toArray, List.set_cons_zero, List.set_cons_succ]
  refine wpAnyH_ready (rs := [7]) (by kernel_rfl) (by simp) ?_
  refine Rg.readyL (i := 7) rfl (fun K hK => ?_)
  have HLs := Lib.hid (list_any [.mk false S [], X] _ _ _ _ (two_its h5 (its_nil _ (.mk false S []) rfl) hIk))
  go_simp
  go_at_call 48
  (with_reducible refine HLs.out.mono ?_)
  rintro e wx3 ⟨la, ln, lc, rfl, hIl, hbx⟩
  replace hIl := ItsIn.weak (B' := w.heap.size + 2) hIl (by have := hHeld.lt; omega)
  refine hK.out _ _ ?_ (fun hHeld => ?_)
  · exact SI.keep hHeld hbx
  clear hK K hbx HLs
  try simp only [Act.put, List.setIfInBounds_toArray, List.set_cons_zero, List.set_cons_succ]
  refine wpAnyH_ready (rs := [8]) (by kernel_rfl) (by simp) ?_
  refine Rg.readyL (i := 8) rfl (fun K hK => ?_)
  obtain ⟨cs, hcs, hOr⟩ := hHeld.2.1
  refine Rg.meetStore (by rfl) hOr 48 (itC (.mk true ⟨#[]⟩ [.mk false S [], X]) la ln lc) ⟨_, _, rfl, rfl, rfl⟩ (info_itC _ _ _ _) (by rw [hcs]; rfl) (itC_one _ _ _ _) ?_
  rintro wz hn hu
  have hBz : Below w.heap.size w wz := hu.below hHeld.2.2 (by omega)
  have hIz := ItsIn.kept hIl (by rw [hu.size]; exact Nat.le_refl _) (fun b o hB _ => World.cell?_of_block (hu.block b (by omega)))
  have hcz := (World.cell?_of_block (a := ⟨w.heap.size, 3, none⟩) (hu.block w.heap.size (by omega))).trans hHeld.1
  refine hK.out _ _ ?_ (fun hHeld => ?_)
  · exact ⟨hcz, ⟨_, rfl, hn⟩, hBz⟩
  clear hK K
  try simp only [Act.put]
  refine wpAnyH_done (by kernel_rfl) ?_ _
  refine NoPanic.normal ?_
  go_wp2
  exact bodyPost_ret (res_item rfl _ rfl (lies_row hn.2)) rfl ⟨la, ln, lc, rfl, ItsIn.weak hIz (by omega), hBz⟩

/-! ### a branch: seventeen items in an array -/
/-- the cells of an item -/
def cellV (q : It × Option Addr × Nat × Nat) (k : Nat) : Value := if k = 0 then .bool q.1.l else if k = 1 then .string q.1.s else .slice q.2.1 q.2.2.1 q.2.2.2
def rowV (V : Nat → It × Option Addr × Nat × Nat) (i : Nat) : Value := cellV (V (i / 3)) (i % 3)
abbrev z4 : It × Option Addr × Nat × Nat := (it0, none, 0, 0)
def zits : Array Value := ((List.range 51).map (rowV fun _ => z4)).toArray
theorem run_alloc_its (ev : Operand → Value) (o : Oper) (w : World) (b : Nat) (hb : b = w.heap.size) (ho : o.op = .alloc 75) :
    (execOp ev o).run Try.prog w = .ok (.value (.pointer (some ⟨b, 0, none⟩))) (w.alloc (.cells zits 75)) := by
  subst hb
  unfold execOp
  rw [ho]
  kernel_rfl
/-- so many references stand as items in the row, the rest is nothing -/
def RowQ (w : World) (g : Nat) (ks : List ByteArray) (j : Nat) : Prop := ∃ V : Nat → It × Option Addr × Nat × Nat, w.rowIs g 75 51 (rowV V) ∧
  (∀ i, i < j → (V i).1 = refI (ks.getD i eB) ∧ ItsIn (g + 1) w (V i).1.xs (V i).2.1 (V i).2.2.1 (V i).2.2.2) ∧ ∀ i, j ≤ i → V i = z4
theorem RowQ.start (w : World) (ks : List ByteArray) : RowQ (w.alloc (.cells zits 75)) w.heap.size ks 0 := by
  refine ⟨fun _ => z4, ?_, fun i hi => absurd hi (Nat.not_lt_zero _), fun _ _ => rfl⟩
  have hs : zits.size = 51 := by simp [zits]
  rw [← hs]
  refine World.rowIs_alloc w zits _ _ (fun i hi => ?_)
  rw [hs] at hi
  simp [zits, hi]
theorem RowQ.lt {w : World} {g j : Nat} {ks : List ByteArray} (h : RowQ w g ks j) : g < w.heap.size := by
  obtain ⟨V, hr, _⟩ := h
  exact hr.lt
theorem RowQ.keep {w w' : World} {g j : Nat} {ks : List ByteArray} (h : RowQ w g ks j) (hb : Below w.heap.size w w') : RowQ w' g ks j := by
  obtain ⟨V, hr, h1, h2⟩ := h
  exact ⟨V, hr.of_block (hb.block g hr.lt), fun i hi => ⟨(h1 i hi).1, ItsIn.kept (h1 i hi).2 hb.size (fun b o _ hlt => hb.cell (p := ⟨b, o, none⟩) hlt)⟩, h2⟩
theorem upd_cell (w : World) (b o : Nat) (v : Value) : Rg.Upd w b (w.setCell ⟨b, o, none⟩ v) := ⟨rfl, rfl, rfl, by simp [World.setCell], fun k hk => Below.heap_setCell _ _ _ _ hk⟩
theorem upd_trans {w w1 w2 : World} {b : Nat} (h : Rg.Upd w b w1) (h2 : Rg.Upd w1 b w2) : Rg.Upd w b w2 :=
  ⟨h2.os.trans h.os, h2.tape.trans h.tape, h2.output.trans h.output, h2.size.trans h.size, fun k hk => (h2.block k hk).trans (h.block k hk)⟩
/-- an item is stored into the row -/
theorem RowQ.step {w : World} {g j : Nat} {ks : List ByteArray} (h : RowQ w g ks j) (hj : j < 16) {A : Option Addr} {N C : Nat} (hI : ItsIn (g + 1) w (refI (ks.getD j eB)).xs A N C) :
    RowQ (w.setCells g (j * 3) (itC (refI (ks.getD j eB)) A N C).toList) g ks (j + 1) ∧ Rg.Upd w g (w.setCells g (j * 3) (itC (refI (ks.getD j eB)) A N C).toList) ∧ w.there g (j * 3) (itC (refI (ks.getD j eB)) A N C).size := by
  obtain ⟨V, hr, h1, h2⟩ := h
  have hu : Rg.Upd w g (w.setCells g (j * 3) (itC (refI (ks.getD j eB)) A N C).toList) := upd_trans (upd_trans (upd_cell w g (j * 3) _) (upd_cell _ g (j * 3 + 1) _)) (upd_cell _ g (j * 3 + 1 + 1) _)
  refine ⟨⟨fun i => if i = j then (refI (ks.getD j eB), A, N, C) else V i, ?_, fun i hi => ?_, fun i hi => ?_⟩, hu, fun i hi => ?_⟩
  · have h3 : (w.setCells g (j * 3) (itC (refI (ks.getD j eB)) A N C).toList).rowIs g 75 51 _ := ((hr.set (j * 3) (.bool (refI (ks.getD j eB)).l)).set (j * 3 + 1) (.string (refI (ks.getD j eB)).s)).set (j * 3 + 1 + 1) (.slice A N C)
    refine h3.congr (fun i hi => ?_)
    unfold rowV
    dsimp only
    by_cases hij : i / 3 = j
    · rw [if_pos hij]
      unfold cellV
      by_cases e2 : i = j * 3 + 1 + 1
      · rw [if_pos e2, if_neg (by omega), if_neg (by omega)]
      · rw [if_neg e2]
        by_cases e1 : i = j * 3 + 1
        · rw [if_pos e1, if_neg (by omega), if_pos (by omega)]
        · rw [if_neg e1, if_pos (by omega), if_pos (by omega)]
    · rw [if_neg hij, if_neg (by omega), if_neg (by omega), if_neg (by omega)]
  · dsimp only
    by_cases hij : i = j
    · subst hij
      rw [if_pos rfl]
      exact ⟨rfl, ItsIn.kept hI (by rw [hu.size]; exact Nat.le_refl _) (fun b o hB _ => World.cell?_of_block (hu.block b (by omega)))⟩
    · rw [if_neg hij]
      obtain ⟨e1, e2⟩ := h1 i (by omega)
      exact ⟨e1, ItsIn.kept e2 (by rw [hu.size]; exact Nat.le_refl _) (fun b o hB _ => World.cell?_of_block (hu.block b (by omega)))⟩
  · dsimp only
    rw [if_neg (by omega)]
    exact h2 i (by omega)
  · have h3 : (itC (refI (ks.getD j eB)) A N C).size = 3 := rfl
    rw [h3] at hi
    exact ⟨by rw [hr.cell (by omega)]; rfl, hr.frozen _⟩
/-- the row whole -/
theorem RowQ.done {w : World} {g : Nat} {ks : List ByteArray} (h : RowQ w g ks 16) (hl : ks.length = 16) : IsIts w (ks.map refI ++ [it0]) (some ⟨g, 0, none⟩) 17 17 := by
  obtain ⟨V, hr, h1, h2⟩ := h
  have hV : ∀ (j : Nat) (x : It), (ks.map refI ++ [it0])[j]? = some x → j < 17 ∧ (V j).1 = x ∧ IsIts w x.xs (V j).2.1 (V j).2.2.1 (V j).2.2.2 := by
    intro j x hx
    by_cases hj : j < 16
    · rw [List.getElem?_append_left (by simp [hl]; omega), List.getElem?_map, List.getElem?_eq_getElem (by omega), Option.map_some] at hx
      obtain ⟨e1, e2⟩ := h1 j hj
      have e : ks.getD j eB = ks[j] := by simp [List.getD, hl, hj]
      have hxe : (V j).1 = x := by rw [e1, e]; exact Option.some.inj hx
      rw [hxe] at e2
      exact ⟨by omega, hxe, ItsIn.weak e2 (Nat.zero_le _)⟩
    · rw [List.getElem?_append_right (by simp [hl]; omega)] at hx
      have hj16 : j = 16 := by
        have := (List.getElem?_eq_some_iff.1 hx).1
        simp [hl] at this
        omega
      subst hj16
      simp [hl] at hx
      subst hx
      rw [h2 16 (Nat.le_refl _)]
      exact ⟨by omega, rfl, ItsIn.nil _ _⟩
  refine ItsP.mk (fun j => (V j).2.1) (fun j => (V j).2.2.1) (fun j => (V j).2.2.2) (by simp [hl]) (Nat.le_refl _) (by unfold maxLen; omega) (by omega) (fun e => by cases e) (fun j x hx => ?_) (fun j x hx => (hV j x hx).2.2)
  obtain ⟨hj, hxe, _⟩ := hV j x hx
  refine ⟨g, 0, rfl, Nat.zero_le _, hr.lt, ?_⟩
  rw [Nat.zero_add]
  refine ⟨?_, ?_, ?_⟩
  · rw [hr.cell (by omega)]
    unfold rowV cellV
    rw [show j * 3 / 3 = j by omega, if_pos (by omega), hxe]
  · rw [hr.cell (by omega)]
    unfold rowV cellV
    rw [show (j * 3 + 1) / 3 = j by omega, if_neg (by omega), if_pos (by omega), hxe]
  · rw [hr.cell (by omega)]
    unfold rowV cellV
    rw [show (j * 3 + 2) / 3 = j by omega, if_neg (by omega), if_neg (by omega)]

set_option maxHeartbeats 16000000 in
theorem item_branch (N : Nd) (a : Option Addr) (n c : Nat) (hl : N.ks.length = 16) (w : World) (hkd : N.kd = 3) (hks : ∀ k ∈ N.ks, k.size ≤ 100) : Calls Try.prog 24 #[.agg (ndC N a n c)] w (GotIt w (itemP N)) := by
  obtain ⟨w2, hw2, hN, hO, hBe, hs2⟩ := two_blocks w N a n c
  have HI : Hid (itemP N = .mk true ⟨#[]⟩ (N.ks.map refI ++ [it0])) := Lib.hid (by unfold itemP itemsP; rw [if_pos hkd])
  rw [HI.out]
  clear HI
  have HR0 : Hid (RowQ (w2.alloc (.cells zits 75)) (w.heap.size + 2) N.ks 0) := Lib.hid (by rw [← hs2]; exact RowQ.start w2 N.ks)
  have HNL : Hid (OwnN (w2.alloc (.cells zits 75)) w.heap.size N a n c) := Lib.hid (hN.below (al1 _ _))
  have HO0 : Hid (Rg.Own (w2.alloc (.cells zits 75)) (w.heap.size + 1) (itC it0 none 0 0) 48) := Lib.hid (hO.below (al1 _ _))
  have HB0 : Hid (Below w.heap.size w (w2.alloc (.cells zits 75))) := Lib.hid (below_step' hBe (al1 _ _))
  obtain ⟨c0, c1, c2⟩ := nd_cells hN
  rw [hkd] at c0
  have HL := Lib.hid hl
  have Hks := Lib.hid hks
  have Hs2 := Lib.hid hs2
  clear hN hO hBe hks hkd hs2 hl
  subst hw2
  go_enter Try.func24, Try.ntmps24
  go_wp2_with (first
    | (refine Rg.run rfl _ _ (run_alloc_it _ _ _ (w.heap.size + 1) (size_one _ _).symm rfl) ?_)
    | (refine Rg.run rfl _ _ (run_alloc_its _ _ _ (w.heap.size + 2) Hs2.out.symm rfl) ?_)
    | (refine Rg.run rfl _ _ (op_load_ks HNL.out HL.out ⟨_, rfl, rfl⟩) ?_))
  go_loopw [13] (fun i wr => ∃ j : Nat, j ≤ 16 ∧ i = .int .i64 j ∧ Hid (RowQ wr (w.heap.size + 2) N.ks j) ∧ Hid (Rg.Own wr (w.heap.size + 1) (itC it0 none 0 0) 48) ∧ Hid (Below w.heap.size w wr)) (fun i _ => 16 - (intOf i).toNat)
  case atStart => exact ⟨0, Nat.zero_le _, rfl, HR0, HO0, HB0⟩
  case round =>
    obtain ⟨j, hj, rfl, HR, HO, HB⟩ := hrel
    clear HR0 HO0 HB0 HNL
    by_cases hlt : j < 16
    · have HSt := Lib.hid (stand_any (N.ks.getD j eB) (by
        have := Hks.out (N.ks.getD j eB) (by rw [List.getD_eq_getElem?_getD, List.getElem?_eq_getElem (by rw [HL.out]; exact hlt)]; exact List.getElem_mem _)
        omega) wr)
      go_wp2_with (refine Rg.run rfl (.string (N.ks.getD j eB)) _ (op_index_ks HL.out hlt ⟨_, _, rfl, rfl, rfl⟩) ?_)
      refine HSt.out.mono ?_
      rintro e w5 ⟨A, M, C, rfl, hI, hb5⟩
      have hlt5 := HR.out.lt
      have hst := (HR.out.keep hb5).step hlt (ItsIn.weak (B' := w.heap.size + 2 + 1) hI (by omega))
      have HS := Lib.hid hst
      have HO5 := Lib.hid (HO.out.below hb5)
      have HB5 := Lib.hid (below_step' HB.out hb5)
      obtain ⟨x, hx⟩ : ∃ x, refI (N.ks.getD j eB) = x := ⟨_, rfl⟩
      rw [hx] at HS ⊢
      clear hI hb5 hst HSt HO HB HR hx
      go_wp2_with (refine wpList_store_mid rfl 48 _ _ rfl (w.heap.size + 2) (j * 3) (itC x A M C) rfl rfl HS.out.2.2 (info_itC _ _ _ _) (itC_one _ _ _ _) ?_)
      go_roundw
      case rel => exact ⟨j + 1, by omega, by go_num, Lib.hid HS.out.1, Lib.hid (HO5.out.upd HS.out.2.1 (by omega)), Lib.hid (HS.out.2.1.below HB5.out (by omega))⟩
      case measure => simp [intOf]; omega
    · obtain rfl : j = 16 := by omega
      have HLs := Lib.hid (list_any _ _ _ _ _ (HR.out.done HL.out))
      obtain ⟨xs, hxs⟩ : ∃ xs, N.ks.map refI ++ [it0] = xs := ⟨_, rfl⟩
      rw [hxs] at HLs
      have HX := Lib.hid hxs
      clear hxs
      go_wp2_with fail
      refine HLs.out.mono ?_
      rintro e w6 ⟨la, ln, lc, rfl, hIl, hb6⟩
      have HO6 := Lib.hid (HO.out.below hb6)
      have HB6 := Lib.hid (below_step' HB.out hb6)
      have hs6 := HO.out.1
      have HI6 := Lib.hid hIl
      clear hIl hb6 HLs
      go_wp2_with (refine wpl_store_it HO6.out (.mk true ⟨#[]⟩ xs) la ln lc rfl _ _ rfl rfl rfl rfl ?_)
      exact bodyPost_ret (res_item rfl _ rfl (lies_row (own_rowI HO6.out).2)) rfl ⟨la, ln, lc, by rw [HX.out], by rw [HX.out]; exact ItsIn.weak (ItsIn_row HI6.out (by omega) _) (by omega), below_row HB6.out (by omega) _⟩
end No
end Go.Proofs.Ytbdhncaiffepoaa

/-
  Contracts of node.Put and of the plain answer's Put.
-/
namespace Go.Proofs.Ytbdhncaiffepoaa
set_option maxRecDepth 100000
open Go.RowKit

namespace No
open Rl Ni
/-- the item of a node that may be -/
theorem item_any (N : Nd) (a : Option Addr) (n c : Nat) (hl : N.ks.length = 16) (w : World) (hB : IsBs w a n c N.p) (hm : mayW refP N = true) (hks : ∀ k ∈ N.ks, k.size ≤ 100) : Calls Try.prog 24 #[.agg (ndC N a n c)] w (GotIt w (itemP N)) := by
  rcases may_kinds hl hm with ⟨k1, _⟩ | ⟨k1, _⟩ | ⟨k1, _⟩
  · exact item_leaf N a n c hl w hB hm k1
  · exact item_ext N a n c hl w hB hm k1 (hks _ (by rw [List.getD_eq_getElem?_getD, List.getElem?_eq_getElem (by omega)]; exact List.getElem_mem _))
  · exact item_branch N a n c hl w k1 hks
/-- what Put tells of a node -/
def putV (N : Nd) : Value := .tuple #[.string (if mayW refP N then ⟨(putP N).toArray⟩ else eB), .int .i64 (if mayW refP N then 0 else 2)]
set_option maxHeartbeats 8000000 in
theorem nput_any (N : Nd) (a : Option Addr) (n c : Nat) (hl : N.ks.length = 16) (w : World) (hB : IsBs w a n c N.p) (hv : N.v.size ≤ maxLen) (hks : ∀ k ∈ N.ks, k.size ≤ 100) :
    Calls Try.prog 8 #[.agg (ndC N a n c)] w fun e w' => e = .returned (putV N) ∧ Below w.heap.size w w' := by
  obtain ⟨w2, hw2⟩ : ∃ w2, w2 = w.alloc (.cells (ndC N a n c) 25) := ⟨_, rfl⟩
  have hO : OwnN w2 w.heap.size N a n c := by rw [hw2]; exact Rg.Own.new _ _ _
  have hBe : Below w.heap.size w w2 := by rw [hw2]; exact al1 _ _
  have HC := Lib.hid (check_any N a n c hl w2 (hB.below hBe) hv (fun k hk => ref_any k (by have := hks k hk; omega)))
  have HIt : Hid (mayW refP N = true → ∀ w', Below w.heap.size w w' → Calls Try.prog 24 #[.agg (ndC N a n c)] w' (GotIt w' (itemP N))) := Lib.hid (fun hm w' hb => item_any N a n c hl w' (hB.below hb) hm hks)
  have HF : Hid (mayW refP N = true → Fits 0 (itemP N) ∧ (itemP N).size ≤ 4096 ∧ (itemP N).bytes.length ≤ 1099511627776) := Lib.hid (fun hm => by
    obtain ⟨f1, f2, f3, _⟩ := item_fits hl hm
    exact ⟨f1, f3, by omega⟩)
  have HO := Lib.hid hO
  have HBe := Lib.hid hBe
  have HL := Lib.hid hl
  unfold putV
  obtain ⟨M, hM⟩ : ∃ M, mayW refP N = M := ⟨_, rfl⟩
  rw [hM] at HC HIt HF ⊢
  clear hO hBe hB hks hv hl hM
  unfold putP
  obtain ⟨X, hX⟩ : ∃ X, itemP N = X := ⟨_, rfl⟩
  rw [hX] at HIt HF ⊢
  clear hX
  subst hw2
  cases M with
  | false =>
    go_enter Try.func8, Try.ntmps8
    go_wp2_with (refine Rg.run rfl _ _ (op_load_nd HO.out HL.out ?_) ?_; · exact ⟨_, rfl, rfl⟩)
    refine HC.out.mono ?_
    rintro e w3 ⟨rfl, hb3⟩
    have HB3 := Lib.hid (below_step' HBe.out hb3)
    clear hb3
    go_wp2
    go_ret2
    exact ⟨rfl, HB3.out⟩
  | true =>
    go_enter Try.func8, Try.ntmps8
    go_wp2_with (refine Rg.run rfl _ _ (op_load_nd HO.out HL.out ?_) ?_; · exact ⟨_, rfl, rfl⟩)
    refine HC.out.mono ?_
    rintro e w3 ⟨rfl, hb3⟩
    have HO3 := Lib.hid (HO.out.below hb3)
    have HB3 := Lib.hid (below_step' HBe.out hb3)
    have HI3 := Lib.hid (HIt.out (by first | rfl | trivial) w3 HB3.out)
    clear hb3 HC HIt
    go_wp2_with (refine Rg.run rfl _ _ (op_load_nd HO3.out HL.out ?_) ?_; · exact ⟨_, rfl, rfl⟩)
    refine HI3.out.mono ?_
    rintro e w4 ⟨la, ln, lc, rfl, hI, hb4⟩
    have HB4 := Lib.hid (below_step' HB3.out hb4)
    have HP4 := Lib.hid (put_any X w4 (itV X la ln lc) ⟨la, ln, lc, rfl, ItsIn.weak hI (Nat.zero_le _)⟩ (HF.out (by first | rfl | trivial)).1 (HF.out (by first | rfl | trivial)).2.1 (HF.out (by first | rfl | trivial)).2.2)
    clear hI hb4 HI3
    go_wp2_with fail
    refine HP4.out.mono ?_
    rintro e w5 ⟨rfl, hb5⟩
    have HB5 := Lib.hid (below_step' HB4.out hb5)
    clear hb5
    go_wp2
    go_ret2
    exact ⟨rfl, HB5.out⟩

/-! ### the plain answer's -/
set_option maxHeartbeats 4000000 in
theorem rtext_any (k : ByteArray) (hk : k.size ≤ 4294967286) (w : World) : Calls Try.prog 31 #[.string k] w fun e w' => e = .returned (.string ⟨(It.mk false k []).bytes.toArray⟩) ∧ Below w.heap.size w w' := by
  have hT := fun w => rput_any (.mk false k []) 0 w (itV (.mk false k []) none 0 0) ⟨none, 0, 0, rfl, ItsIn.nil _ _⟩ (text_fits 0 (by omega) k) (by have := text_len k (by omega); omega)
  unfold itV at hT
  dsimp only [It.l, It.s] at hT
  have HT := Lib.hid hT
  clear hT
  obtain ⟨B, hB⟩ : ∃ B, (⟨(It.mk false k []).bytes.toArray⟩ : ByteArray) = B := ⟨_, rfl⟩
  rw [hB] at HT ⊢
  clear hB
  go_enter Try.func31, Try.ntmps31
  go_wp2_with fail
  refine (HT.out _).mono ?_
  rintro e w3 ⟨rfl, hb3⟩
  have HB := Lib.hid hb3
  clear hb3
  go_wp2
  go_ret
  exact ⟨rfl, HB.out⟩
theorem refI_bytes {k : ByteArray} (h : refP k = true) (hp : plainB k = false) : (⟨(refI k).bytes.toArray⟩ : ByteArray) = k := by
  obtain ⟨x, n, hw, e, hl, hr, h32, hb, hf, _⟩ := ref_list hp h
  rw [e, hb]
set_option maxHeartbeats 4000000 in
theorem rref_any (k : ByteArray) (hk : k.size ≤ 100) (h : refP k = true) (w : World) : Calls Try.prog 33 #[.string k] w fun e w' => e = .returned (.string ⟨(refI k).bytes.toArray⟩) ∧ Below w.heap.size w w' := by
  have HT := Lib.hid (fun w => rtext_any k (by omega) w)
  cases hp : plainB k with
  | true =>
    rw [refI_plain hp]
    obtain ⟨B, hB⟩ : ∃ B, (⟨(It.mk false k []).bytes.toArray⟩ : ByteArray) = B := ⟨_, rfl⟩
    rw [hB] at HT ⊢
    clear hB
    rcases plain_size hp with h0 | h32
    · obtain rfl := size_zero h0
      clear h hp h0 hk
      go_enter Try.func33, Try.ntmps33
      go_wp2_with fail
      refine (HT.out _).mono ?_
      rintro e w3 ⟨rfl, hb3⟩
      have HB := Lib.hid hb3
      clear hb3
      go_wp2
      go_ret
      exact ⟨rfl, HB.out⟩
    · have hne := Ni.not_empty (s := k) (by omega)
      have hd : ((k.size : Int) == 32) = true := by simp; omega
      clear h hp hk
      go_enter Try.func33, Try.ntmps33
      go_wp2_with fail
      refine (HT.out _).mono ?_
      rintro e w3 ⟨rfl, hb3⟩
      have HB := Lib.hid hb3
      clear hb3
      go_wp2
      go_ret
      exact ⟨rfl, HB.out⟩
  | false =>
    have hns : ¬ (k.size = 0 ∨ k.size = 32) := of_decide_eq_false hp
    have hne := Ni.not_empty (s := k) (by omega)
    have hd : ((k.size : Int) == 32) = false := by simp; omega
    rw [refI_bytes h hp]
    clear h hp hns hk
    go_enter Try.func33, Try.ntmps33
    go_wp2
    go_ret
    exact ⟨rfl, Below.refl _ _⟩

/-- the bytes of the first items -/
def flatA (xs : List It) : ByteArray := ⟨((xs.map It.bytes).flatten).toArray⟩
theorem flatA_app (xs ys : List It) : flatA (xs ++ ys) = flatA xs ++ flatA ys := by
  unfold flatA
  rw [ba_app, List.map_append, List.flatten_append]
theorem flatA_one (x : It) : flatA [x] = ⟨x.bytes.toArray⟩ := by
  unfold flatA
  rw [List.map_cons, List.map_nil, List.flatten_cons, List.flatten_nil, List.append_nil]
theorem flatA_size (xs : List It) : (flatA xs).size = ((xs.map It.bytes).flatten).length := ba_size _
theorem putP_flat {N : Nd} (hl : N.ks.length = 16) (h : mayW refP N = true) : (⟨(putP N).toArray⟩ : ByteArray) = headS (flatA (itemsP N)).size true ++ flatA (itemsP N) ∧ (flatA (itemsP N)).size ≤ 1200000 := by
  have h2 := flat_le (itemsP N) 65561 (fun y hy => (items_good hl h y hy).2)
  have hfew := items_few hl
  have hm : (itemsP N).length * 65561 ≤ 17 * 65561 := Nat.mul_le_mul_right _ hfew
  refine ⟨?_, by rw [flatA_size]; omega⟩
  unfold putP itemP
  rw [bytes_list _ (by omega), flatA_size]
  unfold headS flatA
  rw [ba_app]

set_option maxHeartbeats 16000000 in
theorem rput_leaf (N : Nd) (a : Option Addr) (n c : Nat) (hl : N.ks.length = 16) (w : World) (hB : IsBs w a n c N.p) (hm : mayW refP N = true) (hkd : N.kd = 1) :
    Calls Try.prog 12 #[.agg (ndC N a n c)] w fun e w' => e = .returned (.string ⟨(putP N).toArray⟩) ∧ Below w.heap.size w w' := by
  obtain ⟨m1, m2, _⟩ := may_parts hm
  obtain ⟨f1, f2⟩ := putP_flat hl hm
  have hn64 : n ≤ 64 := by rw [← hB.len]; exact m1
  obtain ⟨w2, hw2⟩ : ∃ w2, w2 = w.alloc (.cells (ndC N a n c) 25) := ⟨_, rfl⟩
  have hO : OwnN w2 w.heap.size N a n c := by rw [hw2]; exact Rg.Own.new _ _ _
  have hBe : Below w.heap.size w w2 := by rw [hw2]; exact al1 _ _
  have HPk := Lib.hid (fun w' hb => rpack_any a n c N.p true m2 hn64 w' (hB.below hb))
  have HI : Hid (flatA (itemsP N) = ⟨(It.mk false ⟨(packL N.p true).toArray⟩ []).bytes.toArray⟩ ++ ⟨(It.mk false N.v []).bytes.toArray⟩) := Lib.hid (by
    unfold itemsP pathI
    rw [if_neg (by omega), if_pos hkd]
    rw [show ∀ x y : It, [x, y] = [x] ++ [y] from fun _ _ => rfl, flatA_app, flatA_one, flatA_one, hkd]
    rfl)
  obtain ⟨P, hP⟩ : ∃ P, (⟨(packL N.p true).toArray⟩ : ByteArray) = P := ⟨_, rfl⟩
  have hps : P.size ≤ 100 := by rw [← hP, packL_size, hB.len]; omega
  rw [hP] at HPk HI
  have HT1 := Lib.hid (fun w => rtext_any P (by omega) w)
  have hv2 : N.v.size ≤ 65552 := by
    rcases may_kinds hl hm with ⟨_, _, v, _⟩ | ⟨k2, _⟩ | ⟨k3, _⟩
    · exact v
    · omega
    · omega
  have HT2 := Lib.hid (fun w => rtext_any N.v (by omega) w)
  rw [HI.out] at f1 f2
  obtain ⟨T1, hT1⟩ : ∃ T1, (⟨(It.mk false P []).bytes.toArray⟩ : ByteArray) = T1 := ⟨_, rfl⟩
  obtain ⟨T2, hT2⟩ : ∃ T2, (⟨(It.mk false N.v []).bytes.toArray⟩ : ByteArray) = T2 := ⟨_, rfl⟩
  rw [hT1] at f1 f2 HT1
  rw [hT2] at f1 f2 HT2
  have hts : T1.size + T2.size ≤ 1200000 := by rw [ByteArray.size_append] at f2; exact f2
  have HSZ : Hid (¬ 9223372036854775807 < T1.size + T2.size) := Lib.hid (by omega)
  obtain ⟨X, hX⟩ : ∃ X, T1 ++ T2 = X := ⟨_, rfl⟩
  have HX := Lib.hid hX
  rw [hX] at f1 f2
  have HF := Lib.hid f1
  clear hT1 hT2 hP hX HI f1 hn64
  have HL := Lib.hid hl
  have HK := Lib.hid hkd
  have HBw := Lib.hid hBe
  have HO := Lib.hid hO
  obtain ⟨c0, c1, c2⟩ := nd_cells hO
  rw [hkd] at c0
  clear hm hl m1 m2 hB hO hBe hkd
  subst hw2
  go_enter Try.func12, Try.ntmps12
  go_wp2_with fail
  refine wp_region_noPanic ?_
  refine wp_region_held_drew (S := fun w' => OwnN w' w.heap.size N a n c ∧ Below w.heap.size w w') (by kernel_rfl) (⟨HO.out.drew, HBw.out.drew⟩) (fun hHeld => ?_)
  refine Rg.takeL (i := 0) (v := ?_) rfl (by kernel_rfl) (by kernel_rfl) (by kernel_rfl) (fun _ _ _ h => h) (Or.inl ⟨by rfl, ?_⟩) (by assumption) ?_
  rotate_left
  · (intro wz hSw; (try dsimp only at hSw); go_simp <;> with_reducible rfl)
  try simp only [Act.put, List.setIfInBounds_toArray, List.set_cons_zero, List.set_cons_succ]
  refine Rg.takeL (i := 1) (v := ?_) rfl (by kernel_rfl) (by kernel_rfl) (by kernel_rfl) (fun _ _ _ h => h) (Or.inl ⟨by rfl, ?_⟩) (by assumption) ?_
  rotate_left
  · (intro wz hSw; (have q0 := (nd_cells hSw.1).2.1; go_simp <;> with_reducible rfl))
  try simp only [Act.put, List.setIfInBounds_toArray, List.set_cons_zero, List.set_cons_succ]
  refine Rg.takeL (i := 4) (v := ?_) rfl (by kernel_rfl) (by kernel_rfl) (by kernel_rfl) (fun _ _ _ h => h) (Or.inl ⟨by rfl, ?_⟩) (by assumption) ?_
  rotate_left
  · (intro wz hSw; (try dsimp only at hSw); go_simp <;> with_reducible rfl)
  try simp only [Act.put, List.setIfInBounds_toArray, List.set_cons_zero, List.set_cons_succ]
  refine Rg.takeL (i := 5) (v := ?_) rfl (by kernel_rfl) (by kernel_rfl) (by kernel_rfl) (fun _ _ _ h => h) (Or.inl ⟨by rfl, ?_⟩) (by assumption) ?_
  rotate_left
  · (intro wz hSw; (have q0 := (nd_cells hSw.1).2.2; go_simp <;> with_reducible rfl))
  try simp only [Act.put, List.setIfInBounds_toArray, List.set_cons_zero, List.set_cons_succ]
  refine wpAnyH_ready (rs := [2]) (by kernel_rfl) (by simp) ?_
  refine Rg.readyL (i := 2) rfl (fun K hK => ?_)
  go_simp
  go_at_call 32
  (with_reducible refine (HPk.out _ hHeld.2).mono ?_)
  rintro e wx0 ⟨rfl, hbx⟩
  refine hK.out _ _ ?_ (fun hHeld => ?_)
  · exact ⟨hHeld.1.below hbx, below_step' hHeld.2 hbx⟩
  clear hK K hbx
  try simp only [Act.put, List.setIfInBounds_toArray, List.set_cons_zero, List.set_cons_succ]
  refine wpAnyH_ready (rs := [3]) (by kernel_rfl) (by simp) ?_
  refine Rg.readyL (i := 3) rfl (fun K hK => ?_)
  go_simp
  go_at_call 31
  (with_reducible refine (HT1.out _).mono ?_)
  rintro e wx1 ⟨rfl, hbx⟩
  refine hK.out _ _ ?_ (fun hHeld => ?_)
  · exact ⟨hHeld.1.below hbx, below_step' hHeld.2 hbx⟩
  clear hK K hbx
  try simp only [Act.put, List.setIfInBounds_toArray, List.set_cons_zero, List.set_cons_succ]
  refine wpAnyH_ready (rs := [6]) (by kernel_rfl) (by simp) ?_
  refine Rg.readyL (i := 6) rfl (fun K hK => ?_)
  go_simp
  go_at_call 31
  (with_reducible refine (HT2.out _).mono ?_)
  rintro e wx2 ⟨rfl, hbx⟩
  refine hK.out _ _ ?_ (fun hHeld => ?_)
  · exact ⟨hHeld.1.below hbx, below_step' hHeld.2 hbx⟩
  clear hK K hbx
  try simp only [Act.put, List.setIfInBounds_toArray, List.set_cons_zero, List.set_cons_succ]
  refine Rg.takeL (i := 7) (v := ?_) rfl (by kernel_rfl) (by kernel_rfl) (by kernel_rfl) (fun _ _ _ h => h) (Or.inl ⟨by rfl, ?_⟩) (by assumption) ?_
  rotate_left
  · (intro wz hSw; (have q0 := HSZ.out; go_simp <;> with_reducible rfl))
  try simp only [Act.put, List.setIfInBounds_toArray, List.set_cons_zero, List.set_cons_succ]
  refine Rg.takeL (i := 8) (v := ?_) rfl (by kernel_rfl) (by kernel_rfl) (by kernel_rfl) (fun _ _ _ h => h) (Or.inl ⟨by rfl, ?_⟩) (by assumption) ?_
  rotate_left
  · (intro wz hSw; (try dsimp only at hSw); go_simp <;> with_reducible rfl)
  try simp only [Act.put, List.setIfInBounds_toArray, List.set_cons_zero, List.set_cons_succ]
  refine wpAnyH_done (by kernel_rfl) ?_ _
  refine NoPanic.normal ?_
  rw [HX.out]
  obtain ⟨c0, c1, c2⟩ := nd_cells hHeld.1
  rw [HK.out] at c0
  have HB8 := Lib.hid hHeld.2
  clear hHeld
  have hsz9 : (headS X.size true).size ≤ 9 := by unfold headS; rw [ba_size]; exact headL_le _ _ (by omega)
  have HHd := Lib.hid (rhead_any X.size (by omega) true)
  go_wp2_with fail
  refine (HHd.out _).mono ?_
  rintro e w9 ⟨rfl, hb9⟩
  have HB9 := Lib.hid (below_step' HB8.out hb9)
  clear hb9
  go_wp2
  go_ret
  exact ⟨by rw [HF.out]; rfl, HB9.out⟩

set_option maxHeartbeats 16000000 in
theorem rput_ext (N : Nd) (a : Option Addr) (n c : Nat) (hl : N.ks.length = 16) (w : World) (hB : IsBs w a n c N.p) (hm : mayW refP N = true) (hkd : N.kd = 2) :
    Calls Try.prog 12 #[.agg (ndC N a n c)] w fun e w' => e = .returned (.string ⟨(putP N).toArray⟩) ∧ Below w.heap.size w w' := by
  obtain ⟨m1, m2, _⟩ := may_parts hm
  obtain ⟨f1, f2⟩ := putP_flat hl hm
  have hn64 : n ≤ 64 := by rw [← hB.len]; exact m1
  obtain ⟨w2, hw2⟩ : ∃ w2, w2 = w.alloc (.cells (ndC N a n c) 25) := ⟨_, rfl⟩
  have hO : OwnN w2 w.heap.size N a n c := by rw [hw2]; exact Rg.Own.new _ _ _
  have hBe : Below w.heap.size w w2 := by rw [hw2]; exact al1 _ _
  have HPk := Lib.hid (fun w' hb => rpack_any a n c N.p false m2 hn64 w' (hB.below hb))
  have HI : Hid (flatA (itemsP N) = ⟨(It.mk false ⟨(packL N.p false).toArray⟩ []).bytes.toArray⟩ ++ ⟨(refI (N.ks.getD 0 eB)).bytes.toArray⟩) := Lib.hid (by
    unfold itemsP pathI
    rw [if_neg (by omega), if_neg (by omega)]
    rw [show ∀ x y : It, [x, y] = [x] ++ [y] from fun _ _ => rfl, flatA_app, flatA_one, flatA_one, hkd]
    rfl)
  obtain ⟨P, hP⟩ : ∃ P, (⟨(packL N.p false).toArray⟩ : ByteArray) = P := ⟨_, rfl⟩
  have hps : P.size ≤ 100 := by rw [← hP, packL_size, hB.len]; omega
  rw [hP] at HPk HI
  have HT1 := Lib.hid (fun w => rtext_any P (by omega) w)
  have hr : refP (N.ks.getD 0 eB) = true := by
    rcases may_kinds hl hm with ⟨k1, _⟩ | ⟨_, _, _, _, _, r⟩ | ⟨k3, _⟩
    · omega
    · exact r
    · omega
  obtain ⟨k, hk⟩ : ∃ k, N.ks.getD 0 eB = k := ⟨_, rfl⟩
  rw [hk] at hr HI
  have HCk : Hid (∀ wz, OwnN wz w.heap.size N a n c → wz.cell? ⟨w.heap.size, 3, none⟩ = some (.string k)) := Lib.hid (fun wz h => by rw [← hk]; exact nd_kid h hl 0 (by decide))
  have hks : k.size ≤ 100 := by
    cases hp : plainB k with
    | true => have := plain_size hp; omega
    | false => obtain ⟨_, _, _, _, _, _, h, _⟩ := ref_list hp hr; omega
  have HT2 := Lib.hid (fun w => rref_any k hks hr w)
  clear hk hr hks
  rw [HI.out] at f1 f2
  obtain ⟨T1, hT1⟩ : ∃ T1, (⟨(It.mk false P []).bytes.toArray⟩ : ByteArray) = T1 := ⟨_, rfl⟩
  obtain ⟨T2, hT2⟩ : ∃ T2, (⟨(refI k).bytes.toArray⟩ : ByteArray) = T2 := ⟨_, rfl⟩
  rw [hT1] at f1 f2 HT1
  rw [hT2] at f1 f2 HT2
  have hts : T1.size + T2.size ≤ 1200000 := by rw [ByteArray.size_append] at f2; exact f2
  have HSZ : Hid (¬ 9223372036854775807 < T1.size + T2.size) := Lib.hid (by omega)
  obtain ⟨X, hX⟩ : ∃ X, T1 ++ T2 = X := ⟨_, rfl⟩
  have HX := Lib.hid hX
  rw [hX] at f1 f2
  have HF := Lib.hid f1
  clear hT1 hT2 hP hX HI f1 hn64
  have HL := Lib.hid hl
  have HK := Lib.hid hkd
  have HBw := Lib.hid hBe
  have HO := Lib.hid hO
  obtain ⟨c0, c1, c2⟩ := nd_cells hO
  rw [hkd] at c0
  clear hm hl m1 m2 hB hO hBe hkd
  subst hw2
  go_enter Try.func12, Try.ntmps12
  go_wp2_with fail
  refine wp_region_noPanic ?_
  refine wp_region_held_drew (S := fun w' => OwnN w' w.heap.size N a n c ∧ Below w.heap.size w w') (by kernel_rfl) (⟨HO.out.drew, HBw.out.drew⟩) (fun hHeld => ?_)
  refine Rg.takeL (i := 0) (v := ?_) rfl (by kernel_rfl) (by kernel_rfl) (by kernel_rfl) (fun _ _ _ h => h) (Or.inl ⟨by rfl, ?_⟩) (by assumption) ?_
  rotate_left
  · (intro wz hSw; (try dsimp only at hSw); go_simp <;> with_reducible rfl)
  try simp only [Act.put, List.setIfInBounds_toArray, List.set_cons_zero, List.set_cons_succ]
  refine Rg.takeL (i := 1) (v := ?_) rfl (by kernel_rfl) (by kernel_rfl) (by kernel_rfl) (fun _ _ _ h => h) (Or.inl ⟨by rfl, ?_⟩) (by assumption) ?_
  rotate_left
  · (intro wz hSw; (have q0 := (nd_cells hSw.1).2.1; go_simp <;> with_reducible rfl))
  try simp only [Act.put, List.setIfInBounds_toArray, List.set_cons_zero, List.set_cons_succ]
  refine Rg.takeL (i := 4) (v := ?_) rfl (by kernel_rfl) (by kernel_rfl) (by kernel_rfl) (fun _ _ _ h => h) (Or.inl ⟨by rfl, ?_⟩) (by assumption) ?_
  rotate_left
  · (intro wz hSw; (try dsimp only at hSw); go_simp <;> with_reducible rfl)
  try simp only [Act.put, List.setIfInBounds_toArray, List.set_cons_zero, List.set_cons_succ]
  refine Rg.takeL (i := 5) (v := ?_) rfl (by kernel_rfl) (by kernel_rfl) (by kernel_rfl) (fun _ _ _ h => h) (Or.inl ⟨by rfl, ?_⟩) (by assumption) ?_
  rotate_left
  · (intro wz hSw; (try dsimp only at hSw); go_simp <;> with_reducible rfl)
  try simp only [Act.put, List.setIfInBounds_toArray, List.set_cons_zero, List.set_cons_succ]
  refine Rg.takeL (i := 6) (v := ?_) rfl (by kernel_rfl) (by kernel_rfl) (by kernel_rfl) (fun _ _ _ h => h) (Or.inl ⟨by rfl, ?_⟩) (by assumption) ?_
  rotate_left
  · (intro wz hSw; (have q0 := HCk.out wz hSw.1; go_simp <;> with_reducible rfl))
  try simp only [Act.put, List.setIfInBounds_toArray, List.set_cons_zero, List.set_cons_succ]
  refine wpAnyH_ready (rs := [2]) (by kernel_rfl) (by simp) ?_
  refine Rg.readyL (i := 2) rfl (fun K hK => ?_)
  go_simp
  go_at_call 32
  (with_reducible refine (HPk.out _ hHeld.2).mono ?_)
  rintro e wx0 ⟨rfl, hbx⟩
  refine hK.out _ _ ?_ (fun hHeld => ?_)
  · exact ⟨hHeld.1.below hbx, below_step' hHeld.2 hbx⟩
  clear hK K hbx
  try simp only [Act.put, List.setIfInBounds_toArray, List.set_cons_zero, List.set_cons_succ]
  refine wpAnyH_ready (rs := [3]) (by kernel_rfl) (by simp) ?_
  refine Rg.readyL (i := 3) rfl (fun K hK => ?_)
  go_simp
  go_at_call 31
  (with_reducible refine (HT1.out _).mono ?_)
  rintro e wx1 ⟨rfl, hbx⟩
  refine hK.out _ _ ?_ (fun hHeld => ?_)
  · exact ⟨hHeld.1.below hbx, below_step' hHeld.2 hbx⟩
  clear hK K hbx
  try simp only [Act.put, List.setIfInBounds_toArray, List.set_cons_zero, List.set_cons_succ]
  refine wpAnyH_ready (rs := [7]) (by kernel_rfl) (by simp) ?_
  refine Rg.readyL (i := 7) rfl (fun K hK => ?_)
  go_simp
  go_at_call 33
  (with_reducible refine (HT2.out _).mono ?_)
  rintro e wx2 ⟨rfl, hbx⟩
  refine hK.out _ _ ?_ (fun hHeld => ?_)
  · exact ⟨hHeld.1.below hbx, below_step' hHeld.2 hbx⟩
  clear hK K hbx
  try simp only [Act.put, List.setIfInBounds_toArray, List.set_cons_zero, List.set_cons_succ]
  refine Rg.takeL (i := 8) (v := ?_) rfl (by kernel_rfl) (by kernel_rfl) (by kernel_rfl) (fun _ _ _ h => h) (Or.inl ⟨by rfl, ?_⟩) (by assumption) ?_
  rotate_left
  · (intro wz hSw; (have q0 := HSZ.out; go_simp <;> with_reducible rfl))
  try simp only [Act.put, List.setIfInBounds_toArray, List.set_cons_zero, List.set_cons_succ]
  refine Rg.takeL (i := 9) (v := ?_) rfl (by kernel_rfl) (by kernel_rfl) (by kernel_rfl) (fun _ _ _ h => h) (Or.inl ⟨by rfl, ?_⟩) (by assumption) ?_
  rotate_left
  · (intro wz hSw; (try dsimp only at hSw); go_simp <;> with_reducible rfl)
  try simp only [Act.put, List.setIfInBounds_toArray, List.set_cons_zero, List.set_cons_succ]
  refine wpAnyH_done (by kernel_rfl) ?_ _
  refine NoPanic.normal ?_
  rw [HX.out]
  obtain ⟨c0, c1, c2⟩ := nd_cells hHeld.1
  rw [HK.out] at c0
  have HB8 := Lib.hid hHeld.2
  clear hHeld
  have hsz9 : (headS X.size true).size ≤ 9 := by unfold headS; rw [ba_size]; exact headL_le _ _ (by omega)
  have HHd := Lib.hid (rhead_any X.size (by omega) true)
  go_wp2_with fail
  refine (HHd.out _).mono ?_
  rintro e w9 ⟨rfl, hb9⟩
  have HB9 := Lib.hid (below_step' HB8.out hb9)
  clear hb9
  go_wp2
  go_ret
  exact ⟨by rw [HF.out]; rfl, HB9.out⟩
end No
end Go.Proofs.Ytbdhncaiffepoaa

/-
  The plain answer's Put of a branch; of any node that may be.
-/
namespace Go.Proofs.Ytbdhncaiffepoaa
set_option maxRecDepth 100000
open Go.RowKit

namespace No
open Rl Ni

theorem first_step (ks : List ByteArray) (j : Nat) (hj : j < ks.length) : flatA ((ks.take (j + 1)).map refI) = flatA ((ks.take j).map refI) ++ ⟨(refI (ks.getD j eB)).bytes.toArray⟩ := by
  have e : ks.getD j eB = ks[j] := by simp [List.getD, hj]
  rw [List.take_succ_eq_append_getElem hj, List.map_append, flatA_app, List.map_cons, List.map_nil, flatA_one, e]
theorem first_few (ks : List ByteArray) (hr : ∀ k ∈ ks, refP k = true) (j : Nat) (hj : j ≤ 16) : (flatA ((ks.take j).map refI)).size ≤ 656 := by
  rw [flatA_size]
  have := flat_le ((ks.take j).map refI) 41 (fun y hy => by
    obtain ⟨k, hk, rfl⟩ := List.mem_map.1 hy
    exact (refI_fits (hr k (List.mem_of_mem_take hk))).2)
  have h2 : ((ks.take j).map refI).length * 41 ≤ 16 * 41 := Nat.mul_le_mul_right _ (by rw [List.length_map, List.length_take]; omega)
  omega
theorem nil_bytes : (⟨(It.mk false ⟨#[]⟩ []).bytes.toArray⟩ : ByteArray) = ⟨#[128]⟩ := by
  rw [bytes_text ⟨#[]⟩ (by decide)]
  rfl

set_option maxHeartbeats 16000000 in
theorem rput_branch (N : Nd) (a : Option Addr) (n c : Nat) (hl : N.ks.length = 16) (w : World) (hB : IsBs w a n c N.p) (hm : mayW refP N = true) (hkd : N.kd = 3) :
    Calls Try.prog 12 #[.agg (ndC N a n c)] w fun e w' => e = .returned (.string ⟨(putP N).toArray⟩) ∧ Below w.heap.size w w' := by
  obtain ⟨m1, m2, _⟩ := may_parts hm
  obtain ⟨f1, f2⟩ := putP_flat hl hm
  have hn64 : n ≤ 64 := by rw [← hB.len]; exact m1
  obtain ⟨w2, hw2⟩ : ∃ w2, w2 = w.alloc (.cells (ndC N a n c) 25) := ⟨_, rfl⟩
  have hO : OwnN w2 w.heap.size N a n c := by rw [hw2]; exact Rg.Own.new _ _ _
  have hBe : Below w.heap.size w w2 := by rw [hw2]; exact al1 _ _
  have HPk := Lib.hid (fun w' hb => rpack_any a n c N.p true m2 hn64 w' (hB.below hb))
  have hr : ∀ k ∈ N.ks, refP k = true := by
    rcases may_kinds hl hm with ⟨k1, _⟩ | ⟨k2, _⟩ | ⟨_, _, _, _, r⟩
    · omega
    · omega
    · exact r
  have HI : Hid (flatA (itemsP N) = flatA ((N.ks.take 16).map refI) ++ ⟨#[128]⟩) := Lib.hid (by
    unfold itemsP
    rw [if_pos hkd, flatA_app, flatA_one, List.take_of_length_le (by omega)]
    show _ ++ (⟨(It.mk false ⟨#[]⟩ []).bytes.toArray⟩ : ByteArray) = _
    rw [nil_bytes])
  have HRf : Hid (∀ j, j < 16 → ∀ w, Calls Try.prog 33 #[.string (N.ks.getD j eB)] w fun e w' => e = .returned (.string ⟨(refI (N.ks.getD j eB)).bytes.toArray⟩) ∧ Below w.heap.size w w') := Lib.hid (fun j hj w => by
    have hmem : N.ks.getD j eB ∈ N.ks := by rw [List.getD_eq_getElem?_getD, List.getElem?_eq_getElem (by omega)]; exact List.getElem_mem _
    refine rref_any _ ?_ (hr _ hmem) w
    cases hp : plainB (N.ks.getD j eB) with
    | true => have := plain_size hp; omega
    | false => obtain ⟨_, _, _, _, _, _, h, _⟩ := ref_list hp (hr _ hmem); omega)
  have HFs : Hid (∀ j, j < 16 → flatA ((N.ks.take (j + 1)).map refI) = flatA ((N.ks.take j).map refI) ++ ⟨(refI (N.ks.getD j eB)).bytes.toArray⟩) := Lib.hid (fun j hj => first_step N.ks j (by omega))
  have HFw : Hid (∀ j, j ≤ 16 → (flatA ((N.ks.take j).map refI)).size ≤ 656) := Lib.hid (fun j hj => first_few N.ks hr j hj)
  have HFF : Hid (_ ∧ _) := Lib.hid ⟨f1, f2⟩
  clear hr f1 f2
  have HL := Lib.hid hl
  have HK := Lib.hid hkd
  have HBw := Lib.hid hBe
  have HO := Lib.hid hO
  obtain ⟨c0, c1, c2⟩ := nd_cells hO
  rw [hkd] at c0
  clear hm hl m1 m2 hB hO hBe hkd
  subst hw2
  go_enter Try.func12, Try.ntmps12
  go_wp2_with fail
  go_loopw [3, 4] (fun s i wr => ∃ (j : Nat) (T : ByteArray), j ≤ 16 ∧ i = .int .i64 j ∧ s = .string T ∧ T.size ≤ 656 ∧ Hid (flatA ((N.ks.take j).map refI) = T) ∧ Hid (OwnN wr w.heap.size N a n c) ∧ Hid (Below w.heap.size w wr)) (fun _ i _ => 16 - (intOf i).toNat)
  case atStart => exact ⟨0, ⟨#[]⟩, Nat.zero_le _, rfl, rfl, by decide, Lib.hid rfl, HO, HBw⟩
  case round =>
    obtain ⟨j, T, hj, rfl, rfl, hT, HT, HN, HB⟩ := hrel
    clear HO HBw c0 c1 c2
    by_cases hlt : j < 16
    · have HR := Lib.hid (fun w => HRf.out j hlt w)
      have HS := Lib.hid (HFs.out j hlt)
      have HW := HFw.out (j + 1) (by omega)
      have hc := nd_kid HN.out HL.out j hlt
      have HS2 : Hid (flatA ((N.ks.take (j + 1)).map refI) = T ++ ⟨(refI (N.ks.getD j eB)).bytes.toArray⟩) := Lib.hid (by rw [HS.out, HT.out])
      rw [HS2.out] at HW
      obtain ⟨k, hk⟩ : ∃ k, N.ks.getD j eB = k := ⟨_, rfl⟩
      rw [hk] at hc HR HW HS2
      obtain ⟨U, hU⟩ : ∃ U, (⟨(refI k).bytes.toArray⟩ : ByteArray) = U := ⟨_, rfl⟩
      rw [hU] at HR HW HS2
      have hsz : T.size + U.size ≤ 656 := by rw [ByteArray.size_append] at HW; exact HW
      clear hk hU HS HT HRf HFs HFw
      go_wp2_with fail
      refine (HR.out _).mono ?_
      rintro e w5 ⟨rfl, hb5⟩
      have HN5 := Lib.hid (HN.out.below hb5)
      have HB5 := Lib.hid (below_step' HB.out hb5)
      clear hb5 HN HB hc
      go_wp2
      go_roundw
      case rel => exact ⟨j + 1, T ++ U, by omega, by go_num, rfl, HW, HS2, HN5, HB5⟩
      case measure => simp [intOf]; omega
    · obtain rfl : j = 16 := by omega
      obtain ⟨f1, f2⟩ := HFF.out
      rw [HI.out, HT.out] at f1 f2
      obtain ⟨X, hX⟩ : ∃ X, T ++ ⟨#[128]⟩ = X := ⟨_, rfl⟩
      rw [hX] at f1 f2
      have HF := Lib.hid f1
      have hsz : T.size + (⟨#[128]⟩ : ByteArray).size ≤ 1200000 := by rw [← ByteArray.size_append, hX]; exact f2
      have hone : (⟨#[128]⟩ : ByteArray).size = 1 := rfl
      rw [hone] at hsz
      have HXe := Lib.hid hX
      have hsz9 : (headS X.size true).size ≤ 9 := by unfold headS; rw [ba_size]; exact headL_le _ _ (by omega)
      have hXs : (X.size : Int) = (T.size : Int) + 1 := by rw [← hX, ByteArray.size_append, hone]; rfl
      have hHd := rhead_any X.size (by omega) true
      rw [hXs] at hHd
      have HHd := Lib.hid hHd
      clear hHd hXs
      have h12 := f2
      rw [← hX] at h12
      obtain ⟨c0, c1, c2⟩ := nd_cells HN.out
      rw [HK.out] at c0
      clear f1 hX HFF HI HRf HFs HFw
      go_wp2_with fail
      rw [HXe.out]
      with_reducible refine (HHd.out _).mono ?_
      rintro e w9 ⟨rfl, hb9⟩
      have HB9 := Lib.hid (below_step' HB.out hb9)
      clear hb9
      go_wp2
      go_ret
      exact ⟨by rw [HF.out]; rfl, HB9.out⟩

/-- the plain answer's Put of a node that may be -/
theorem rput_of (N : Nd) (a : Option Addr) (n c : Nat) (hl : N.ks.length = 16) (w : World) (hB : IsBs w a n c N.p) (hm : mayW refP N = true) :
    Calls Try.prog 12 #[.agg (ndC N a n c)] w fun e w' => e = .returned (.string ⟨(putP N).toArray⟩) ∧ Below w.heap.size w w' := by
  rcases may_kinds hl hm with ⟨k1, _⟩ | ⟨k1, _⟩ | ⟨k1, _⟩
  · exact rput_leaf N a n c hl w hB hm k1
  · exact rput_ext N a n c hl w hB hm k1
  · exact rput_branch N a n c hl w hB hm k1
end No
end Go.Proofs.Ytbdhncaiffepoaa

/-
  Contracts of the plain answers' Reference, May, kid.
-/
namespace Go.Proofs.Ytbdhncaiffepoaa
set_option maxRecDepth 100000
open Go.RowKit

namespace No
open Rl Ni
/-- the plain answer's Reference tells of this text what it ought to -/
def RRefC (k : ByteArray) : Prop := ∀ w : World, Calls Try.prog 22 #[.string k] w fun e w' => e = .returned (.bool (refP k)) ∧ Below w.heap.size w w'
/-- .. its Get -/
def RGetC (s : ByteArray) : Prop := ∀ w : World, Calls Try.prog 14 #[.string s] w (ReadPost w (getP s.data.toList))

set_option maxHeartbeats 4000000 in
theorem rref_of (k : ByteArray) (hk : k.size ≤ 9223372036854775807) (h : k.size < 32 → RGetC k) : RRefC k := by
  intro w
  by_cases h0 : k.size = 0
  · obtain rfl := size_zero h0
    have HF : Hid (refP eB = true) := Lib.hid (by unfold refP; rw [eB_plain]; rfl)
    rw [HF.out]
    clear h
    go_enter Try.func22, Try.ntmps22
    go_wp2
    go_ret
    exact ⟨rfl, Below.refl _ _⟩
  · have hne := Ni.not_empty (s := k) (by omega)
    by_cases h32 : k.size = 32
    · have hq : ((k.size : Int) == 32) = true := by simp; omega
      have HF : Hid (refP k = true) := Lib.hid (by unfold refP plainB; simp [h32])
      rw [HF.out]
      clear h
      go_enter Try.func22, Try.ntmps22
      go_wp2
      go_ret
      exact ⟨rfl, Below.refl _ _⟩
    · have hq : ((k.size : Int) == 32) = false := by simp; omega
      by_cases hlt : k.size < 32
      · have HF : Hid (refP k = (getP k.data.toList).isSome) := Lib.hid (by unfold refP plainB; simp [h32, h0, hlt])
        have HG := Lib.hid (h hlt w)
        rw [HF.out]
        obtain ⟨r, hr⟩ : ∃ r, getP k.data.toList = r := ⟨_, rfl⟩
        rw [hr] at HG ⊢
        have d31 : decide (31 < (k.size : Int)) = false := by simp; omega
        clear h hr HF
        go_enter Try.func22, Try.ntmps22
        go_wp2_with fail
        refine HG.out.mono ?_
        rintro e w3 ⟨N, a3, n3, c3, b, rfl, hr3, hx3, hl3, hb3⟩
        have HO : Hid (OwnN (w3.alloc (.cells (ndC nd0 none 0 0) 25)) w3.heap.size nd0 none 0 0) := Lib.hid (Rg.Own.new _ _ _)
        have HB := Lib.hid (below_step' hb3 (al1 w3 (.cells (ndC nd0 none 0 0) 25)))
        have HL := Lib.hid hl3
        have hge := hb3.size
        clear hx3 hl3 hb3 HG
        go_wp2_with (first
          | (refine Rg.run rfl _ _ (run_alloc_nd _ _ _ w3.heap.size rfl rfl) ?_)
          | (refine wpl_store_nd HO.out rfl N a3 n3 c3 HL.out rfl _ _ rfl rfl rfl rfl ?_))
        go_ret
        rcases hr3 with ⟨rfl, rfl⟩ | ⟨rfl, rfl⟩
        · exact ⟨rfl, below_rowN HB.out hge _⟩
        · exact ⟨rfl, below_rowN HB.out hge _⟩
      · have HF : Hid (refP k = false) := Lib.hid (by unfold refP plainB; simp [h32, h0, hlt])
        rw [HF.out]
        have d31 : decide (31 < (k.size : Int)) = true := by simp; omega
        clear h
        go_enter Try.func22, Try.ntmps22
        go_wp2
        go_ret
        exact ⟨rfl, Below.refl _ _⟩

/-- all references of a node that may be are references -/
theorem may_refs {n : Nd} (hl : n.ks.length = 16) (h : mayW refP n = true) : ∀ k ∈ n.ks, refP k = true := by
  have hz : ∀ k : ByteArray, k.size = 0 → refP k = true := fun k hk => by unfold refP plainB; simp [hk]
  rcases may_kinds hl h with ⟨_, _, _, k3⟩ | ⟨_, _, _, k3, k4, k5⟩ | ⟨_, _, _, _, k5⟩
  · intro k hk
    rw [kidsL_nil k3] at hk
    rw [List.eq_of_mem_replicate hk]
    exact hz _ rfl
  · intro k hk
    rw [kids_one hl k3 k4] at hk
    unfold one16 at hk
    rcases List.mem_cons.1 hk with e | e
    · rw [e]; exact k5
    · rw [List.eq_of_mem_replicate e]; exact hz _ rfl
  · exact k5
/-- .. and if all are, this is what is left to be asked -/
theorem may_all {n : Nd} (hl : n.ks.length = 16) (h : ∀ k ∈ n.ks, refP k = true) : mayW refP n = (decide (n.p.length ≤ 64) && rightB n.p &&
    (if n.kd = 1 then decide (n.v.size ≠ 0) && decide (n.v.size ≤ 65552) && decide ((kidsL n.ks).length = 0) else
     if n.kd = 2 then decide (n.v.size = 0) && decide (0 < n.p.length) && decide ((n.ks.getD 0 eB).size ≠ 0) && decide ((kidsL n.ks).length = 1) else
     if n.kd = 3 then decide (n.v.size = 0) && decide (n.p.length = 0) && decide (2 ≤ (kidsL n.ks).length) else false)) := by
  have h0 : refP (n.ks.getD 0 eB) = true := h _ (by rw [List.getD_eq_getElem?_getD, List.getElem?_eq_getElem (by omega)]; exact List.getElem_mem _)
  have h1 : (kidsL n.ks).all refP = true := List.all_eq_true.2 fun k hk => h k (List.mem_filter.1 hk).1
  unfold mayW fitsW
  rw [h0, h1]
  congr 1
  split
  · rfl
  · split
    · rw [Bool.and_true]
      generalize decide (0 < n.p.length) = A
      generalize decide (n.v.size = 0) = B
      generalize decide ((kidsL n.ks).length = 1) = C
      generalize decide ((n.ks.getD 0 eB).size ≠ 0) = D
      cases A <;> cases B <;> cases C <;> cases D <;> rfl
    · split
      · rw [Bool.and_true]
        generalize decide (n.p.length = 0) = A
        generalize decide (n.v.size = 0) = B
        cases A <;> cases B <;> rfl
      · rfl
theorem may_long {n : Nd} (h : ¬ n.p.length ≤ 64) : mayW refP n = false := by unfold mayW; simp [h]
theorem may_bad {n : Nd} (h : rightB n.p = false) : mayW refP n = false := by unfold mayW; simp [h]

set_option maxHeartbeats 16000000 in
theorem rmay_any (N : Nd) (a : Option Addr) (n c : Nat) (hl : N.ks.length = 16) (w : World) (hB : IsBs w a n c N.p) (hv : N.v.size ≤ maxLen) (hR : ∀ k ∈ N.ks, RRefC k) :
    Calls Try.prog 9 #[.agg (ndC N a n c)] w fun e w' => e = .returned (.bool (mayW refP N)) ∧ Below w.heap.size w w' := by
  have hp := hB.len
  have hm := hB.2.1
  have hnc := hB.1
  have HO : Hid (OwnN (w.alloc (.cells (ndC N a n c) 25)) w.heap.size N a n c) := Lib.hid (Rg.Own.new _ _ _)
  have HBe := Lib.hid (al1 w (.cells (ndC N a n c) 25))
  have HRi := Lib.hid (rright_any a n c N.p (w.alloc (.cells (ndC N a n c) 25)) (hB.below (al1 _ _)))
  obtain ⟨c0, c1, c2⟩ := nd_cells HO.out
  have HL := Lib.hid hl
  have HP := Lib.hid hp
  have HRR := Lib.hid hR
  unfold maxLen at hm hv
  have HA := Lib.hid (fun h => may_all (n := N) hl h)
  have HM := Lib.hid (fun h => may_refs (n := N) hl h)
  have HG := Lib.hid (fun h => may_long (n := N) h)
  have HD := Lib.hid (fun h => may_bad (n := N) h)
  rw [hp] at HA HG
  obtain ⟨F, hF⟩ : ∃ F, mayW refP N = F := ⟨_, rfl⟩
  rw [hF] at HA HM HG HD ⊢
  obtain ⟨R, hRb⟩ : ∃ R, rightB N.p = R := ⟨_, rfl⟩
  rw [hRb] at HRi HA HD
  clear hB hp hl hR hF hRb
  cases R with
  | false =>
    obtain rfl := HD.out rfl
    go_enter Try.func9, Try.ntmps9
    go_wp2_with fail
    refine HRi.out.mono ?_
    rintro e w3 ⟨rfl, rfl⟩
    go_wp2
    go_ret
    exact ⟨rfl, HBe.out⟩
  | true =>
    by_cases h64 : n ≤ 64
    · have d64 : decide (64 < (n : Int)) = false := by simp; omega
      go_enter Try.func9, Try.ntmps9
      go_wp2_with fail
      refine HRi.out.mono ?_
      rintro e w3 ⟨rfl, rfl⟩
      clear HRi
      go_wp2
      clear c0 c1 c2
      go_loopw [3] (fun i wr => ∃ j : Nat, j ≤ 16 ∧ i = .int .i64 j ∧ Hid (∀ k ∈ N.ks.take j, refP k = true) ∧ Hid (Below (w.heap.size + 1) (w.alloc (.cells (ndC N a n c) 25)) wr)) (fun i _ => 16 - (intOf i).toNat)
      case atStart => exact ⟨0, Nat.zero_le _, rfl, Lib.hid (fun k hk => by simp at hk), Lib.hid (Below.refl _ _)⟩
      case round =>
        obtain ⟨j, hj, rfl, HJ, HB⟩ := hrel
        have HOr := Lib.hid (HO.out.below (HB.out.mono (by simp)))
        have HBr := Lib.hid (of_al HB.out)
        by_cases hlt : j < 16
        · have hck := nd_kid HOr.out HL.out j hlt
          have HMem : Hid (N.ks.getD j eB ∈ N.ks) := Lib.hid (by rw [List.getD_eq_getElem?_getD, List.getElem?_eq_getElem (by rw [HL.out]; exact hlt)]; exact List.getElem_mem _)
          have HC := Lib.hid (HRR.out _ HMem.out wr)
          have HT : Hid (refP (N.ks.getD j eB) = true → ∀ k ∈ N.ks.take (j + 1), refP k = true) := Lib.hid (fun h k hk => by
            rw [List.take_succ_eq_append_getElem (by rw [HL.out]; exact hlt)] at hk
            rcases List.mem_append.1 hk with e | e
            · exact HJ.out k e
            · rw [List.mem_singleton.1 e]
              rw [List.getD_eq_getElem?_getD, List.getElem?_eq_getElem (by rw [HL.out]; exact hlt)] at h
              exact h)
          have HN : Hid (refP (N.ks.getD j eB) = false → F = false) := Lib.hid (fun h => by
            cases F with
            | false => rfl
            | true => exact absurd (HM.out rfl _ HMem.out) (by rw [h]; decide))
          obtain ⟨K, hK⟩ : ∃ K, N.ks.getD j eB = K := ⟨_, rfl⟩
          rw [hK] at hck HC HT HN
          obtain ⟨RK, hRK⟩ : ∃ RK, refP K = RK := ⟨_, rfl⟩
          rw [hRK] at HC HT HN
          clear hK hRK HMem HJ
          go_wp2_with fail
          refine HC.out.mono ?_
          rintro e w5 ⟨rfl, hb5⟩
          have HB5 := Lib.hid (al_step HB.out hb5)
          have HB5' := Lib.hid (of_al HB5.out)
          clear hb5 HC HB hck HOr HBr
          cases RK with
          | true =>
            go_wp2
            go_roundw
            case rel => exact ⟨j + 1, by omega, by go_num, Lib.hid (HT.out (by first | rfl | trivial)), HB5⟩
            case measure => simp [intOf]; omega
          | false =>
            obtain rfl := HN.out (by first | rfl | trivial)
            go_wp2
            go_ret
            exact ⟨rfl, HB5'.out⟩
        · obtain rfl : j = 16 := by omega
          have e : N.ks.take 16 = N.ks := List.take_of_length_le (by rw [HL.out]; exact Nat.le_refl _)
          have HE := Lib.hid (HA.out (fun k hk => HJ.out k (by rw [e]; exact hk)))
          have HRk := Lib.hid (fun w => rkids_any N a n c HL.out w)
          obtain ⟨c0, c1, c2⟩ := nd_cells HOr.out
          have ck := nd_kid HOr.out HL.out 0 (by decide)
          have hkl := kidsL_len N.ks 16
          rw [e] at hkl
          obtain ⟨Q, hQ⟩ : ∃ Q, (kidsL N.ks).length = Q := ⟨_, rfl⟩
          obtain ⟨K, hK⟩ : ∃ K, N.ks.getD 0 eB = K := ⟨_, rfl⟩
          obtain ⟨V, hV⟩ : ∃ V, N.v = V := ⟨_, rfl⟩
          rw [hQ] at HE HRk hkl
          rw [hK] at HE ck
          rw [hV] at HE c2 hv
          clear e HJ HM HA HG HD hQ hK hV HB
          by_cases hkd : N.kd = 1
          · rw [hkd] at c0
            rw [if_pos hkd] at HE
            by_cases hv0 : V.size = 0
            · have d1 : decide (1 ≤ (V.size : Int)) = false := by simp; omega
              go_wp2
              go_ret
              exact ⟨by rw [HE.out]; simp [hv0], HBr.out⟩
            · have d1 : decide (1 ≤ (V.size : Int)) = true := by simp; omega
              by_cases hv2 : V.size ≤ 65552
              · have d2 : decide ((V.size : Int) ≤ 65552) = true := by simp; omega
                go_wp2_with (refine Rg.runW (by rfl) _ _ (op_load_nd HOr.out HL.out ?_) ?_; · exact ⟨_, rfl, rfl⟩)
                refine (HRk.out _).mono ?_
                rintro e w6 ⟨rfl, hb6⟩
                have HB6 := Lib.hid (below_step' HBr.out hb6)
                clear hb6
                by_cases hq : Q = 0
                · subst hq
                  go_wp2
                  go_ret
                  exact ⟨by rw [HE.out]; simp [hv0, hv2, h64], HB6.out⟩
                · have dq : ((Q : Int) == 0) = false := by simp; omega
                  go_wp2
                  go_ret
                  exact ⟨by rw [HE.out]; simp [hq], HB6.out⟩
              · have d2 : decide ((V.size : Int) ≤ 65552) = false := by simp; omega
                go_wp2
                go_ret
                exact ⟨by rw [HE.out]; simp [hv2], HBr.out⟩
          · rw [if_neg hkd] at HE
            have hk1 : (N.kd == 1) = false := by simp; exact hkd
            clear hkd
            by_cases hkd : N.kd = 2
            · rw [hkd] at c0
              rw [if_pos hkd] at HE
              by_cases hv0 : V.size = 0
              · obtain rfl := size_zero hv0
                by_cases hn0 : 0 < n
                · have dn : decide (0 < (n : Int)) = true := by simp; omega
                  by_cases hz : K.size = 0
                  · obtain rfl := size_zero hz
                    go_wp2
                    go_ret
                    exact ⟨by rw [HE.out]; rw [show decide (eB.size ≠ 0) = false from rfl, Bool.and_false, Bool.false_and, Bool.and_false]; rfl, HBr.out⟩
                  · have hkn := Ni.not_empty (s := K) (by omega)
                    go_wp2_with (refine Rg.runW (by rfl) _ _ (op_load_nd HOr.out HL.out ?_) ?_; · exact ⟨_, rfl, rfl⟩)
                    refine (HRk.out _).mono ?_
                    rintro e w6 ⟨rfl, hb6⟩
                    have HB6 := Lib.hid (below_step' HBr.out hb6)
                    clear hb6
                    by_cases hq : Q = 1
                    · subst hq
                      go_wp2
                      go_ret
                      exact ⟨by rw [HE.out]; simp [hn0, hz, h64]; rfl, HB6.out⟩
                    · have dq : ((Q : Int) == 1) = false := by simp; omega
                      go_wp2
                      go_ret
                      exact ⟨by rw [HE.out]; simp [hq], HB6.out⟩
                · obtain rfl : n = 0 := by omega
                  go_wp2
                  go_ret
                  exact ⟨by rw [HE.out]; simp, HBr.out⟩
              · have hvn := Ni.not_empty (s := V) (by omega)
                go_wp2
                go_ret
                exact ⟨by rw [HE.out]; simp [hv0], HBr.out⟩
            · rw [if_neg hkd] at HE
              have hk2 : (N.kd == 2) = false := by simp; exact hkd
              clear hkd
              by_cases hkd : N.kd = 3
              · rw [hkd] at c0
                rw [if_pos hkd] at HE
                by_cases hv0 : V.size = 0
                · obtain rfl := size_zero hv0
                  by_cases hn0 : n = 0
                  · subst hn0
                    go_wp2_with (refine Rg.runW (by rfl) _ _ (op_load_nd HOr.out HL.out ?_) ?_; · exact ⟨_, rfl, rfl⟩)
                    refine (HRk.out _).mono ?_
                    rintro e w6 ⟨rfl, hb6⟩
                    have HB6 := Lib.hid (below_step' HBr.out hb6)
                    clear hb6
                    by_cases hq : 2 ≤ Q
                    · have dq : decide (2 ≤ (Q : Int)) = true := by simp; omega
                      go_wp2
                      go_ret
                      exact ⟨by rw [HE.out]; simp [hq]; rfl, HB6.out⟩
                    · have dq : decide (2 ≤ (Q : Int)) = false := by simp; omega
                      go_wp2
                      go_ret
                      exact ⟨by rw [HE.out]; simp [hq], HB6.out⟩
                  · have dn : ((n : Int) == 0) = false := by simp; omega
                    go_wp2
                    go_ret
                    exact ⟨by rw [HE.out]; simp [hn0], HBr.out⟩
                · have hvn := Ni.not_empty (s := V) (by omega)
                  go_wp2
                  go_ret
                  exact ⟨by rw [HE.out]; simp [hv0], HBr.out⟩
              · rw [if_neg hkd] at HE
                have hk3 : (N.kd == 3) = false := by simp; exact hkd
                go_wp2
                go_ret
                exact ⟨by rw [HE.out]; simp, HBr.out⟩
    · have d64 : decide (64 < (n : Int)) = true := by simp; omega
      obtain rfl := HG.out h64
      go_enter Try.func9, Try.ntmps9
      go_wp2_with fail
      refine HRi.out.mono ?_
      rintro e w3 ⟨rfl, rfl⟩
      go_wp2
      go_ret
      exact ⟨rfl, HBe.out⟩

/-- what the plain answer's kid tells of an item -/
def kidR (x : It) : ByteArray × Bool := if x.l then (if x.bytes.length < 32 then (⟨x.bytes.toArray⟩, refP ⟨x.bytes.toArray⟩) else (eB, false)) else (x.s, refP x.s)
set_option maxHeartbeats 8000000 in
theorem rkid_text (s : ByteArray) (w : World) (a : Option Addr) (n c : Nat) (hR : RRefC s) (_hs : s.size ≤ 1000000) :
    Calls Try.prog 37 #[.agg #[.bool false, .string s, .slice a n c]] w fun e w' => e = .returned (.tuple #[.string s, .bool (refP s)]) ∧ Below w.heap.size w w' := by
  have hO : Rg.Own (w.alloc (.cells #[.bool false, .string s, .slice a n c] 48)) w.heap.size (itC (.mk false s []) a n c) 48 := Rg.Own.new _ _ _
  obtain ⟨c0, c1, c2⟩ := lies_row hO.2
  have HB := Lib.hid (al1 w (.cells #[.bool false, .string s, .slice a n c] 48))
  have HR := Lib.hid (fun w => hR w)
  obtain ⟨RK, hRK⟩ : ∃ RK, refP s = RK := ⟨_, rfl⟩
  rw [hRK] at HR ⊢
  dsimp only [It.l, It.s] at c0 c1
  clear hO hRK hR
  go_enter Try.func37, Try.ntmps37
  go_wp2_with fail
  refine (HR.out _).mono ?_
  rintro e w3 ⟨rfl, hb3⟩
  have HB3 := Lib.hid (below_step' HB.out hb3)
  clear hb3
  go_wp2
  go_ret2
  exact ⟨rfl, HB3.out⟩
set_option maxHeartbeats 8000000 in
theorem rkid_list (s : ByteArray) (xs : List It) (w : World) (a : Option Addr) (n c : Nat) (hv : IsIts w xs a n c) (hG : Good (.mk true s xs)) (h1 : (It.mk true s xs).bytes.length < 32 → RRefC ⟨(It.mk true s xs).bytes.toArray⟩) :
    Calls Try.prog 37 #[.agg #[.bool true, .string s, .slice a n c]] w fun e w' => e = .returned (.tuple #[.string (kidR (.mk true s xs)).1, .bool (kidR (.mk true s xs)).2]) ∧ Below w.heap.size w w' := by
  obtain ⟨w1, hw1⟩ : ∃ w1, w1 = w.alloc (.cells #[.bool true, .string s, .slice a n c] 48) := ⟨_, rfl⟩
  have hb1 : Below w.heap.size w w1 := by rw [hw1]; exact al1 _ _
  have hO : Rg.Own w1 w.heap.size (itC (.mk true s xs) a n c) 48 := by rw [hw1]; exact Rg.Own.new _ _ _
  obtain ⟨c0, c1, c2⟩ := lies_row hO.2
  have HB := Lib.hid hb1
  have HO := Lib.hid hO
  have hP : Calls Try.prog 56 #[.agg (itC (.mk true s xs) a n c)] w1 _ := rput_any (.mk true s xs) 0 w1 (itV (.mk true s xs) a n c) ⟨a, n, c, rfl, hv.stays hb1⟩ hG.1 hG.2.2.1
  have hsz := hG.2.2.1
  have hbs : (⟨(It.mk true s xs).bytes.toArray⟩ : ByteArray).size = (It.mk true s xs).bytes.length := ba_size _
  unfold kidR
  rw [if_pos (show (It.mk true s xs).l = true from rfl)]
  dsimp only [It.l, It.s] at c0 c1
  by_cases hlt : (It.mk true s xs).bytes.length < 32
  · have hR := h1 hlt
    rw [if_pos hlt]
    dsimp only
    obtain ⟨S, hS⟩ : ∃ S, (⟨(It.mk true s xs).bytes.toArray⟩ : ByteArray) = S := ⟨_, rfl⟩
    obtain ⟨RK, hRK⟩ : ∃ RK, refP S = RK := ⟨_, rfl⟩
    unfold RRefC at hR
    rw [hS] at hR hP hbs
    rw [hS, hRK]
    rw [hRK] at hR
    have HR := Lib.hid (fun w => hR w)
    have HP := Lib.hid hP
    have d31 : decide (31 < (S.size : Int)) = false := by simp; omega
    clear h1 hv hG hb1 hO hP hsz hRK hS hR
    subst hw1
    go_enter Try.func37, Try.ntmps37
    go_wp2_with (refine Rg.run rfl _ _ (op_load_it HO.out ⟨_, rfl, rfl⟩) ?_)
    with_reducible refine HP.out.mono ?_
    rintro e w3 ⟨rfl, hb3⟩
    have HB3 := Lib.hid (below_step' HB.out hb3)
    clear hb3 HP
    go_wp2_with fail
    refine (HR.out _).mono ?_
    rintro e w4 ⟨rfl, hb4⟩
    have HB4 := Lib.hid (below_step' HB3.out hb4)
    clear hb4
    go_wp2
    go_ret2
    exact ⟨rfl, HB4.out⟩
  · rw [if_neg hlt]
    dsimp only
    obtain ⟨S, hS⟩ : ∃ S, (⟨(It.mk true s xs).bytes.toArray⟩ : ByteArray) = S := ⟨_, rfl⟩
    rw [hS] at hP hbs
    have HP := Lib.hid hP
    have d31 : decide (31 < (S.size : Int)) = true := by simp; omega
    clear h1 hv hG hb1 hO hS hP
    subst hw1
    go_enter Try.func37, Try.ntmps37
    go_wp2_with (refine Rg.run rfl _ _ (op_load_it HO.out ⟨_, rfl, rfl⟩) ?_)
    with_reducible refine HP.out.mono ?_
    rintro e w3 ⟨rfl, hb3⟩
    have HB3 := Lib.hid (below_step' HB.out hb3)
    clear hb3 HP
    go_wp2
    go_ret2
    exact ⟨rfl, HB3.out⟩
/-- the plain answer's kid of any item -/
theorem rkid_any (x : It) (w : World) (a : Option Addr) (n c : Nat) (hv : IsIts w x.xs a n c) (hG : Good x) (h1 : x.l = true → x.bytes.length < 32 → RRefC ⟨x.bytes.toArray⟩) (h2 : x.l = false → RRefC x.s) :
    Calls Try.prog 37 #[itV x a n c] w fun e w' => e = .returned (.tuple #[.string (kidR x).1, .bool (kidR x).2]) ∧ Below w.heap.size w w' := by
  cases x with
  | mk l s xs =>
    cases l with
    | true => exact rkid_list s xs w a n c hv hG (h1 rfl)
    | false =>
      obtain rfl : xs = [] := by
        have := text_of' hG.1 rfl
        exact congrArg It.xs this
      have hk : kidR (.mk false s []) = (s, refP s) := rfl
      rw [hk]
      exact rkid_text s w a n c (h2 rfl) hG.2.2.2
end No
end Go.Proofs.Ytbdhncaiffepoaa
