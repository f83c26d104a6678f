/-
  NodePuts: a node that may be is laid in the plain answer's very bytes, and these are read as that node; one that may not be is refused, and Check says so; for every node (of one that is far too great: the law asks what comes at any rate).
-/
import Derived.Test.YtbdhncaiffepoaaMg11
import Derived.Test.YtbdhncaiffepoaaMg14
import Derived.OpenShut
import Derived.ShutString
import Derived.ChangeOld
import Derived.Below
namespace Go.Proofs.Ytbdhncaiffepoaa.nodePuts
open Go.ChangeShapes Go.WideShapes Go.ChangeAt Go.RowKit
open No Rl

theorem own : ownKnob Try.prog.godebug = none := by kernel_rfl
theorem laidOut : laidOutB Try.prog = true := by kernel_rfl

/-- the plain answer's Same of two nodes that are one -/
theorem rsame_one (N : Nd) (hl : N.ks.length = 16) (w : World) (a b : Option Addr) (n m c d : Nat) (h : IsBs w a n c N.p) (g : IsBs w b m d N.p) : Calls Try.prog 13 #[.agg (ndC N a n c), .agg (ndC N b m d)] w fun e w' => e = .returned (.bool true) ∧ Below w.heap.size w w' := by
  have := rsame_any N N _ _ w ⟨a, n, c, rfl, h, hl⟩ ⟨b, m, d, rfl, g, hl⟩
  rw [sameB_true rfl] at this
  exact this
theorem put_small {N : Nd} (hl : N.ks.length = 16) (h : mayW refP N = true) : (putP N).length ≤ 1000000 := by
  have key : ∀ m, (∀ y ∈ itemsP N, y.bytes.length ≤ m) → (itemsP N).length * m ≤ 200000 → (putP N).length ≤ 1000000 := by
    intro m h1 h2
    have h3 := flat_le (itemsP N) m h1
    unfold putP itemP
    rw [bytes_list _ (by omega), List.length_append]
    have := headL_le ((itemsP N).map It.bytes).flatten.length true (by omega)
    omega
  have hg := items_good hl h
  rcases may_kinds hl h with ⟨k1, _⟩ | ⟨k1, _⟩ | ⟨k1, _, _, _, hr⟩
  · exact key 65561 (fun y hy => (hg y hy).2) (by unfold itemsP; rw [if_neg (by omega), if_pos k1]; simp)
  · exact key 65561 (fun y hy => (hg y hy).2) (by unfold itemsP; rw [if_neg (by omega), if_neg (by omega)]; simp)
  · refine key 41 (fun y hy => ?_) (by have := items_few hl; omega)
    unfold itemsP at hy
    rw [if_pos k1] at hy
    rcases List.mem_append.1 hy with hy | hy
    · obtain ⟨k, hk, rfl⟩ := List.mem_map.1 hy
      exact (refI_fits (hr k hk)).2
    · obtain rfl := List.mem_singleton.1 hy
      have h := (refI_fits (k := eB) (by unfold refP; rw [eB_plain]; rfl)).2
      rw [refI_plain eB_plain] at h
      exact h
theorem light_parts {N : Nd} (h : lightB N = true) : (∀ k ∈ N.ks, k.size ≤ 100) ∧ N.p.length ≤ 100 ∧ N.v.size ≤ 500 := by
  unfold lightB at h
  rw [Bool.and_eq_true, Bool.and_eq_true, List.all_eq_true] at h
  exact ⟨fun k hk => of_decide_eq_true (h.1.1 k hk), of_decide_eq_true h.1.2, of_decide_eq_true h.2⟩
set_option maxRecDepth 100000 in
set_option maxHeartbeats 4000000 in
theorem walk_heavy (N : Nd) (a : Option Addr) (n c : Nat) (hl : N.ks.length = 16) (w : World) (hB : IsBs w a n c N.p) (hh : lightB N = false) :
    Calls Try.prog 3 #[.agg (ndC N a n c)] w fun e w' => e = .returned (.bool true) ∧ Below w.heap.size w w' := by
  have HO : Hid (OwnN (w.alloc (.cells (ndC N a n c) 25)) w.heap.size N a n c) := Lib.hid (Rg.Own.new _ _ _)
  have HLt := Lib.hid (light_any N a n c hl hB.len (Nat.le_trans hB.1 hB.2.1) (w.alloc (.cells (ndC N a n c) 25)))
  rw [hh] at HLt
  have HAw := Lib.hid (fun w => awake_any w)
  have HL := Lib.hid hl
  have HB := Lib.hid (al1 w (.cells (ndC N a n c) 25))
  clear hl hB hh
  go_enter Try.func3, Try.ntmps3
  go_wp2_with (refine Rg.runW (by rfl) _ _ (op_load_nd HO.out HL.out ?_) ?_; · exact ⟨_, rfl, rfl⟩)
  refine HLt.out.mono ?_
  rintro e w3 ⟨rfl, hb3⟩
  have HB3 := Lib.hid (below_step' HB.out hb3)
  clear hb3
  go_wp2_with (go_at_call 7; with_reducible refine (HAw.out _).mono ?_; rintro e wa ⟨rfl, hba⟩)
  have HBa := Lib.hid (below_step' HB3.out hba)
  clear hba
  go_wp2
  go_ret
  exact ⟨rfl, HBa.out⟩

set_option maxRecDepth 100000 in
set_option maxHeartbeats 8000000 in
theorem walk_not (N : Nd) (a : Option Addr) (n c : Nat) (hl : N.ks.length = 16) (w : World) (hB : IsBs w a n c N.p) (hh : lightB N = true) (hm : mayW refP N = false) :
    Calls Try.prog 3 #[.agg (ndC N a n c)] w fun e w' => e = .returned (.bool true) ∧ Below w.heap.size w w' := by
  obtain ⟨t1, t2, t3⟩ := light_parts hh
  have hvm : N.v.size ≤ maxLen := by unfold maxLen; omega
  have hp := fun w (h : IsBs w a n c N.p) => nput_any N a n c hl w h hvm t1
  have hmy := fun w (h : IsBs w a n c N.p) => rmay_any N a n c hl w h hvm (fun k hk => rrefs_any k (by have := t1 k hk; omega))
  have hck := fun w (h : IsBs w a n c N.p) => check_any N a n c hl w h hvm (fun k hk => ref_any k (by have := t1 k hk; omega))
  have hpv : putV N = .tuple #[.string eB, .int .i64 2] := by unfold putV; rw [hm]; rfl
  rw [hpv] at hp
  rw [hm] at hmy hck
  have hi2 : (if (false = true) then (0 : Int) else 2) = 2 := rfl
  rw [hi2] at hck
  have HP := Lib.hid hp
  have HM := Lib.hid hmy
  have HC := Lib.hid hck
  have HO : Hid (OwnN (w.alloc (.cells (ndC N a n c) 25)) w.heap.size N a n c) := Lib.hid (Rg.Own.new _ _ _)
  have HLt := Lib.hid (light_any N a n c hl hB.len (Nat.le_trans hB.1 hB.2.1) (w.alloc (.cells (ndC N a n c) 25)))
  rw [hh] at HLt
  have HAw := Lib.hid (fun w => awake_any w)
  have HL := Lib.hid hl
  have HB := Lib.hid (al1 w (.cells (ndC N a n c) 25))
  have HX := Lib.hid (hB.alloc (.cells (ndC N a n c) 25))
  clear hl hB hh hm t1 t2 t3 hvm hp hmy hck hpv hi2
  go_enter Try.func3, Try.ntmps3
  go_wp2_with (refine Rg.runW (by rfl) _ _ (op_load_nd HO.out HL.out ?_) ?_; · exact ⟨_, rfl, rfl⟩)
  refine HLt.out.mono ?_
  rintro e w3 ⟨rfl, hb3⟩
  have HO3 := Lib.hid (HO.out.below hb3)
  have HX3 := Lib.hid (HX.out.below hb3)
  have HB3 := Lib.hid (below_step' HB.out hb3)
  clear hb3
  go_wp2_with (refine Rg.runW (by rfl) _ _ (op_load_nd HO3.out HL.out ?_) ?_; · exact ⟨_, rfl, rfl⟩)
  refine (HP.out _ HX3.out).mono ?_
  rintro e w4 ⟨rfl, hb4⟩
  have HO4 := Lib.hid (HO3.out.below hb4)
  have HX4 := Lib.hid (HX3.out.below hb4)
  have HB4 := Lib.hid (below_step' HB3.out hb4)
  clear hb4
  go_wp2_with (refine Rg.runW (by rfl) _ _ (op_load_nd HO4.out HL.out ?_) ?_; · exact ⟨_, rfl, rfl⟩)
  refine (HM.out _ HX4.out).mono ?_
  rintro e w5 ⟨rfl, hb5⟩
  have HO5 := Lib.hid (HO4.out.below hb5)
  have HX5 := Lib.hid (HX4.out.below hb5)
  have HB5 := Lib.hid (below_step' HB4.out hb5)
  clear hb5
  go_wp2_with (refine Rg.runW (by rfl) _ _ (op_load_nd HO5.out HL.out ?_) ?_; · exact ⟨_, rfl, rfl⟩)
  refine (HC.out _ HX5.out).mono ?_
  rintro e w6 ⟨rfl, hb6⟩
  have HO6 := Lib.hid (HO5.out.below hb6)
  have HX6 := Lib.hid (HX5.out.below hb6)
  have HB6 := Lib.hid (below_step' HB5.out hb6)
  clear hb6
  go_wp2_with (go_at_call 7; with_reducible refine (HAw.out _).mono ?_; rintro e wa ⟨rfl, hba⟩)
  have HBa := Lib.hid (below_step' HB6.out hba)
  clear hba
  go_wp2
  go_ret
  exact ⟨rfl, HBa.out⟩

set_option maxRecDepth 100000 in
set_option maxHeartbeats 16000000 in
theorem walk_may (N : Nd) (a : Option Addr) (n c : Nat) (hl : N.ks.length = 16) (w : World) (hB : IsBs w a n c N.p) (hh : lightB N = true) (hm : mayW refP N = true) :
    Calls Try.prog 3 #[.agg (ndC N a n c)] w fun e w' => e = .returned (.bool true) ∧ Below w.heap.size w w' := by
  obtain ⟨t1, t2, t3⟩ := light_parts hh
  have hvm : N.v.size ≤ maxLen := by unfold maxLen; omega
  have hp := fun w (h : IsBs w a n c N.p) => nput_any N a n c hl w h hvm t1
  have hmy := fun w (h : IsBs w a n c N.p) => rmay_any N a n c hl w h hvm (fun k hk => rrefs_any k (by have := t1 k hk; omega))
  have hck := fun w (h : IsBs w a n c N.p) => check_any N a n c hl w h hvm (fun k hk => ref_any k (by have := t1 k hk; omega))
  have hrp := fun w (h : IsBs w a n c N.p) => rput_of N a n c hl w h hm
  have hgt := nget_any ⟨(putP N).toArray⟩ (by rw [ba_size]; exact put_small hl hm)
  unfold GetC at hgt
  rw [show (ByteArray.data ⟨(putP N).toArray⟩).toList = putP N by simp, get_put hl hm] at hgt
  have hpv : putV N = .tuple #[.string ⟨(putP N).toArray⟩, .int .i64 0] := by unfold putV; rw [hm]; rfl
  rw [hpv] at hp
  rw [hm] at hmy hck
  have hi2 : (if (true = true) then (0 : Int) else 2) = 0 := rfl
  rw [hi2] at hck
  obtain ⟨T, hT⟩ : ∃ T, (⟨(putP N).toArray⟩ : ByteArray) = T := ⟨_, rfl⟩
  rw [hT] at hp hrp hgt
  have HP := Lib.hid hp
  have HM := Lib.hid hmy
  have HC := Lib.hid hck
  have HRp := Lib.hid hrp
  have HG := Lib.hid hgt
  have HS := Lib.hid (rsame_one N hl)
  have HO : Hid (OwnN (w.alloc (.cells (ndC N a n c) 25)) w.heap.size N a n c) := Lib.hid (Rg.Own.new _ _ _)
  have HLt := Lib.hid (light_any N a n c hl hB.len (Nat.le_trans hB.1 hB.2.1) (w.alloc (.cells (ndC N a n c) 25)))
  rw [hh] at HLt
  have HAw := Lib.hid (fun w => awake_any w)
  have HL := Lib.hid hl
  have HB := Lib.hid (al1 w (.cells (ndC N a n c) 25))
  have HX := Lib.hid (hB.alloc (.cells (ndC N a n c) 25))
  clear hl hB hh hm t1 t2 t3 hvm hp hmy hck hpv hi2 hrp hgt hT
  go_enter Try.func3, Try.ntmps3
  go_wp2_with (refine Rg.runW (by rfl) _ _ (op_load_nd HO.out HL.out ?_) ?_; · exact ⟨_, rfl, rfl⟩)
  refine HLt.out.mono ?_
  rintro e w3 ⟨rfl, hb3⟩
  have HO3 := Lib.hid (HO.out.below hb3)
  have HX3 := Lib.hid (HX.out.below hb3)
  have HB3 := Lib.hid (below_step' HB.out hb3)
  clear hb3
  go_wp2_with (refine Rg.runW (by rfl) _ _ (op_load_nd HO3.out HL.out ?_) ?_; · exact ⟨_, rfl, rfl⟩)
  refine (HP.out _ HX3.out).mono ?_
  rintro e w4 ⟨rfl, hb4⟩
  have HO4 := Lib.hid (HO3.out.below hb4)
  have HX4 := Lib.hid (HX3.out.below hb4)
  have HB4 := Lib.hid (below_step' HB3.out hb4)
  clear hb4
  go_wp2_with (refine Rg.runW (by rfl) _ _ (op_load_nd HO4.out HL.out ?_) ?_; · exact ⟨_, rfl, rfl⟩)
  refine (HM.out _ HX4.out).mono ?_
  rintro e w5 ⟨rfl, hb5⟩
  have HO5 := Lib.hid (HO4.out.below hb5)
  have HX5 := Lib.hid (HX4.out.below hb5)
  have HB5 := Lib.hid (below_step' HB4.out hb5)
  clear hb5
  go_wp2_with (refine Rg.runW (by rfl) _ _ (op_load_nd HO5.out HL.out ?_) ?_; · exact ⟨_, rfl, rfl⟩)
  refine (HC.out _ HX5.out).mono ?_
  rintro e w6 ⟨rfl, hb6⟩
  have HO6 := Lib.hid (HO5.out.below hb6)
  have HX6 := Lib.hid (HX5.out.below hb6)
  have HB6 := Lib.hid (below_step' HB5.out hb6)
  clear hb6
  go_wp2_with fail
  refine (HG.out _).mono ?_
  rintro e w7 ⟨M, a7, n7, c7, er, rfl, hr7, hx7, hl7, hb7⟩
  obtain ⟨rfl, rfl⟩ : er = 0 ∧ M = N := by
    rcases hr7 with ⟨h, h1⟩ | ⟨_, _, h⟩
    · exact ⟨h, (Option.some.inj h1).symm⟩
    · cases h
  have H78 : Hid (OwnN (w7.alloc (.cells (ndC nd0 none 0 0) 25)) w7.heap.size nd0 none 0 0) := Lib.hid (Rg.Own.new _ _ _)
  obtain ⟨w8, hw8⟩ : ∃ w8, w8 = (w7.alloc (.cells (ndC nd0 none 0 0) 25)).setRow w7.heap.size (ndC M a7 n7 c7) := ⟨_, rfl⟩
  have hb78 : Below w7.heap.size w7 w8 := by rw [hw8]; exact below_rowN (al1 _ _) (Nat.le_refl _) _
  have HQ8 : Hid (OwnN w8 w7.heap.size M a7 n7 c7) := Lib.hid (by rw [hw8]; exact own_rowN H78.out)
  have HY8 := Lib.hid (hx7.1.below hb78)
  have hb8 := below_step' hb7 hb78
  clear hr7 hx7 hl7 hb7 hb78
  have HO8 := Lib.hid (HO6.out.below hb8)
  have HX8 := Lib.hid (HX6.out.below hb8)
  have HB8 := Lib.hid (below_step' HB6.out hb8)
  clear hb8
  go_wp2_with (first
    | (refine Rg.run rfl _ _ (run_alloc_nd _ _ _ w7.heap.size rfl rfl) ?_)
    | (refine wpl_store_nd H78.out rfl M a7 n7 c7 HL.out rfl _ _ rfl rfl rfl rfl ?_)
    | (go_at_call 7; with_reducible refine (HAw.out _).mono ?_; rintro e wa ⟨rfl, hba⟩; rw [← hw8] at hba; have HO9 := Lib.hid (HO8.out.below hba); have HQ9 := Lib.hid (HQ8.out.below hba); have HX9 := Lib.hid (HX8.out.below hba); have HY9 := Lib.hid (HY8.out.below hba); have HB9 := Lib.hid (below_step' HB8.out hba))
    | (refine Rg.runW (by rfl) _ _ (op_load_nd HO9.out HL.out ?_) ?_; · exact ⟨_, rfl, rfl⟩))
  clear hba hw8 H78 HQ8 HY8 HO8 HX8 HB8
  refine (HRp.out _ HX9.out).mono ?_
  rintro e wb ⟨rfl, hbb⟩
  obtain ⟨g, hg⟩ : ∃ g, w7.heap.size = g := ⟨_, rfl⟩
  rw [hg] at HQ9 ⊢
  have HOb := Lib.hid (HO9.out.below hbb)
  have HQb := Lib.hid (HQ9.out.below hbb)
  have HXb := Lib.hid (HX9.out.below hbb)
  have HYb := Lib.hid (HY9.out.below hbb)
  have HBb := Lib.hid (below_step' HB9.out hbb)
  clear hbb hg HO9 HQ9 HX9 HY9 HB9
  go_wp2_with (first
    | (refine Rg.runW (by rfl) _ _ (op_load_nd HQb.out HL.out ?_) ?_; · exact ⟨_, rfl, rfl⟩)
    | (refine Rg.runW (by rfl) _ _ (op_load_nd HOb.out HL.out ?_) ?_; · exact ⟨_, rfl, rfl⟩))
  refine (HS.out _ _ _ _ _ _ _ HYb.out HXb.out).mono ?_
  rintro e wc ⟨rfl, hbc⟩
  have HBc := Lib.hid (below_step' HBb.out hbc)
  clear hbc
  go_wp2
  go_ret
  exact ⟨rfl, HBc.out⟩

theorem walk (N : Nd) (a : Option Addr) (n c : Nat) (hl : N.ks.length = 16) (w : World) (hB : IsBs w a n c N.p) :
    Calls Try.prog 3 #[.agg (ndC N a n c)] w fun e w' => e = .returned (.bool true) ∧ Below w.heap.size w w' := by
  cases hh : lightB N with
  | false => exact walk_heavy N a n c hl w hB hh
  | true =>
    cases hm : mayW refP N with
    | false => exact walk_not N a n c hl w hB hh hm
    | true => exact walk_may N a n c hl w hB hh hm

set_option maxRecDepth 100000 in
theorem lifted (os : Os) (started : os.Started) (H : Type) (enc : TypeId × Value → H) :
    ReturnsInHanded {} Try.checked os 3 .any (Rows.nodePutsSpec.pre6 enc Try.prog Try.f3 Rows.nodePutsRow.domain false) (Rows.nodePutsSpec.post enc Try.prog Try.f3 false true false false) := by
  refine returnsInHanded_of_change (C := Try.checked) own started (by kernel_rfl) Try.func3
    (ChangeSpec.witness6 (enc := enc) (C := Try.checked) false ⟨#[], #[.agg #[.int .i64 0, .slice none 0 0, .string ByteArray.empty, .string ByteArray.empty, .string ByteArray.empty, .string ByteArray.empty, .string ByteArray.empty, .string ByteArray.empty, .string ByteArray.empty, .string ByteArray.empty, .string ByteArray.empty, .string ByteArray.empty, .string ByteArray.empty, .string ByteArray.empty, .string ByteArray.empty, .string ByteArray.empty, .string ByteArray.empty, .string ByteArray.empty, .string ByteArray.empty]], []⟩ 8 (by kernel_rfl) (by kernel_rfl) (by kernel_rfl) (by kernel_rfl)) ?_
  intro W base args ds gs before hval0 hW _ _
  have hval : ∀ (j : Nat) t v, Try.f3.params[j]? = some t → args[j]? = some v → Value.okWide Try.prog W .any base t v := hval0
  have hW' := hW
  obtain ⟨p, q, hA0, hV, rfl, hfz, hnd⟩ := hW
  have hA : DataW.TrodAll enc Try.prog W 0 (fun _ => true) true Try.f3.params.toList args.toList ds p := hA0
  rw [Try.params3] at hA hval
  obtain ⟨v0, vs0, d0, ds0, p0, q0, hargs, rfl, rfl, h0, r0⟩ := trodAll_cons hA
  obtain ⟨rfl, rfl, rfl⟩ := trodAll_nil r0
  obtain rfl : args = #[v0] := by cases args; simp_all
  obtain ⟨rfl, rfl⟩ := trodVars_none hV
  have k0 := h0
  have lt0 : ∀ x ∈ p0, x.block < W.heap.size := by obtain ⟨m, hm⟩ := k0; exact DataW.trod_lt m _ _ _ hm
  obtain ⟨N0, b0, len0, cap0, rfl, hB0, hl0⟩ := node_of (hval 0 25 v0 rfl rfl) h0
  clear hA0 hval0
  refine (walk N0 b0 len0 cap0 hl0 W hB0).mono fun e W' ⟨he, bel⟩ => ?_
  subst he
  exact ⟨_, rfl, _, _, _, [], _, [], hW', trodAll_mk1 (shut_bool Try.underlying4 _), (trodAll_cons_mk (Below.trod laidOut (by kernel_rfl) (of_decide_eq_true (by kernel_rfl)) k0 bel lt0) trodAll_mk0), rfl, bel.frame _, fun h => by cases h⟩

theorem over : Rows.nodePutsRow.holds Try.pinned (OpenSpec.ofChange Rows.nodePutsSpec) :=
  OpenClaim.holds_of_wide 3 Try.f3 rfl rfl rfl rfl rfl rfl rfl ⟨rfl, rfl, rfl, rfl, rfl⟩ rfl rfl rfl rfl rfl (by kernel_rfl) Try.func3 (by kernel_rfl)
    (of_decide_eq_true (by kernel_rfl)) (by unfold Func.isWrapper; first | (rw [if_pos (by decide +kernel)]; kernel_rfl) | (rw [if_neg (by decide +kernel)]; exact ⟨rfl, rfl⟩))
    (fun os started H enc _ => lifted os started H enc)

theorem proved : Rows.NodePutsSaid := over

end Go.Proofs.Ytbdhncaiffepoaa.nodePuts
