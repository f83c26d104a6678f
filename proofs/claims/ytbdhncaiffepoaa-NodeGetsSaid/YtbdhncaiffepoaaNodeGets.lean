/-
  NodeGets: what is read of any bytes is the plain answer's node, whose bytes are the very ones; bytes that are no node's are refused, and nothing is told of them; for every text (of more than 1500 bytes: the law asks what comes at any rate).
-/
import Derived.Test.YtbdhncaiffepoaaMg11
import Derived.Test.YtbdhncaiffepoaaMg14
import Derived.OpenShut
import Derived.ShutString
import Derived.ChangeOld
import Derived.Below
namespace Go.Proofs.Ytbdhncaiffepoaa.nodeGets
open Go.ChangeShapes Go.WideShapes Go.ChangeAt Go.RowKit
open Go.ChangeMaps (open_string shut_string)
open No Rl

theorem own : ownKnob Try.prog.godebug = none := by kernel_rfl
theorem laidOut : laidOutB Try.prog = true := by kernel_rfl

/-- the plain answer's Same of two nodes that are one -/
theorem rsame_one (N : Nd) (hl : N.ks.length = 16) (w : World) (a b : Option Addr) (n m c d : Nat) (h : IsBs w a n c N.p) (g : IsBs w b m d N.p) : Calls Try.prog 13 #[.agg (ndC N a n c), .agg (ndC N b m d)] w fun e w' => e = .returned (.bool true) ∧ Below w.heap.size w w' := by
  have := rsame_any N N _ _ w ⟨a, n, c, rfl, h, hl⟩ ⟨b, m, d, rfl, g, hl⟩
  rw [sameB_true rfl] at this
  exact this
set_option maxRecDepth 100000 in
set_option maxHeartbeats 4000000 in
theorem walk_big (s : ByteArray) (hn : 1500 < s.size) (w : World) :
    Calls Try.prog 4 #[.string s] w fun e w' => e = .returned (.bool true) ∧ Below w.heap.size w w' := by
  have HAw := Lib.hid (fun w => awake_any w)
  have hd : decide (1500 < (s.size : Int)) = true := by simp; omega
  go_enter Try.func4, Try.ntmps4
  go_wp2_with (go_at_call 7; with_reducible refine (HAw.out _).mono ?_; rintro e wa ⟨rfl, hba⟩)
  go_wp2
  go_ret
  exact ⟨rfl, hba⟩

/-- the node that was told, in a box -/
theorem boxed (w w3 : World) (hb : Below w.heap.size w w3) (N : Nd) (a : Option Addr) (n c : Nat) (h : IsBs w3 a n c N.p) : ∃ w4, w4 = (w3.alloc (.cells (ndC nd0 none 0 0) 25)).setRow w3.heap.size (ndC N a n c) ∧
    OwnN (w3.alloc (.cells (ndC nd0 none 0 0) 25)) w3.heap.size nd0 none 0 0 ∧ OwnN w4 w3.heap.size N a n c ∧ IsBs w4 a n c N.p ∧ Below w.heap.size w w4 ∧ Below w3.heap.size w3 w4 ∧ w3.heap.size < w4.heap.size := by
  have h1 : OwnN (w3.alloc (.cells (ndC nd0 none 0 0) 25)) w3.heap.size nd0 none 0 0 := Rg.Own.new _ _ _
  have h2 : Below w3.heap.size w3 ((w3.alloc (.cells (ndC nd0 none 0 0) 25)).setRow w3.heap.size (ndC N a n c)) := below_rowN (al1 _ _) (Nat.le_refl _) _
  exact ⟨_, rfl, h1, own_rowN h1, h.below h2, below_step' hb h2, h2, by simp⟩

set_option maxRecDepth 100000 in
set_option maxHeartbeats 8000000 in
theorem walk_none (s : ByteArray) (hn : s.size ≤ 1500) (hg : getP s.data.toList = none) (w : World) :
    Calls Try.prog 4 #[.string s] w fun e w' => e = .returned (.bool true) ∧ Below w.heap.size w w' := by
  have hd : decide (1500 < (s.size : Int)) = false := by simp; omega
  have hG := nget_any s (by omega)
  have hR := rget_any s (by omega)
  unfold GetC at hG
  unfold RGetC at hR
  rw [hg] at hG hR
  have HG := Lib.hid hG
  have HR := Lib.hid hR
  have HAw := Lib.hid (fun w => awake_any w)
  clear hg hG hR
  go_enter Try.func4, Try.ntmps4
  go_wp2_with fail
  refine (HG.out _).mono ?_
  rintro e w3 ⟨N, a3, n3, c3, er, rfl, hr3, hx3, hl3, hb3⟩
  obtain ⟨her, hN⟩ : er ≠ 0 ∧ N = nd0 := by
    rcases hr3 with ⟨_, h⟩ | ⟨h, h1, _⟩
    · cases h
    · exact ⟨h, h1⟩
  have hne : (er != 0) = true := by simp; exact her
  obtain ⟨w4, hw4, h34, h4, hx4, hb4, hb34, hlt4⟩ := boxed w w3 hb3 N a3 n3 c3 hx3.1
  have HS := Lib.hid (rsame_one N hl3)
  have HL := Lib.hid hl3
  have H0 : Hid (Try.prog.built 25 [] = some (ndC N none 0 0)) := Lib.hid (by rw [hN]; exact built0)
  have HZ : Hid (N.p = []) := Lib.hid (by rw [hN]; rfl)
  have H34 := Lib.hid h34
  have H4 := Lib.hid h4
  have HX4 := Lib.hid hx4
  have HB4 := Lib.hid hb4
  clear hr3 hx3 hl3 hb3 h34 h4 hx4 hb4 hb34 her hN
  go_wp2_with (first
    | (refine Rg.run rfl _ _ (run_alloc_nd _ _ _ w3.heap.size rfl rfl) ?_)
    | (refine wpl_store_nd H34.out rfl N a3 n3 c3 HL.out rfl _ _ rfl rfl rfl rfl ?_))
  rw [← hw4]
  obtain ⟨g, hg⟩ : ∃ g, w3.heap.size = g := ⟨_, rfl⟩
  rw [hg] at H4 hlt4 ⊢
  clear hw4 H34 hg
  refine (HR.out _).mono ?_
  rintro e w5 ⟨M, a5, n5, c5, b5, rfl, hr5, hx5, hl5, hb5⟩
  obtain rfl : b5 = false := by
    rcases hr5 with ⟨_, h⟩ | ⟨h, _⟩
    · cases h
    · exact h
  have H45 : Hid (OwnN (w5.alloc (.cells (ndC nd0 none 0 0) 25)) w5.heap.size nd0 none 0 0) := Lib.hid (Rg.Own.new _ _ _)
  have hb56 : Below w5.heap.size w5 ((w5.alloc (.cells (ndC nd0 none 0 0) 25)).setRow w5.heap.size (ndC M a5 n5 c5)) := below_rowN (al1 _ _) (Nat.le_refl _) _
  obtain ⟨w6, hw6⟩ : ∃ w6, w6 = (w5.alloc (.cells (ndC nd0 none 0 0) 25)).setRow w5.heap.size (ndC M a5 n5 c5) := ⟨_, rfl⟩
  rw [← hw6] at hb56
  have hb46 := below_step' hb5 hb56
  have H6 := Lib.hid (H4.out.below hb46)
  have HX6 := Lib.hid (HX4.out.below hb46)
  have HB6 := Lib.hid (below_step' HB4.out hb46)
  have HL5 := Lib.hid hl5
  clear hr5 hx5 hl5 hb5 hb56 hb46 H4 HX4 HB4 hlt4
  go_wp2_with (first
    | (refine Rg.run rfl _ _ (run_alloc_nd _ _ _ w5.heap.size rfl rfl) ?_)
    | (refine wpl_store_nd H45.out rfl M a5 n5 c5 HL5.out rfl _ _ rfl rfl rfl rfl ?_)
    | (go_at_call 7; with_reducible refine (HAw.out _).mono ?_; rintro e wa ⟨rfl, hba⟩; rw [← hw6] at hba; have H7 := Lib.hid (H6.out.below hba); have HX7 := Lib.hid (HX6.out.below hba); have HB7 := Lib.hid (below_step' HB6.out hba))
    | (refine Rg.runW (by rfl) _ _ (op_load_nd H7.out HL.out ?_) ?_; · exact ⟨_, rfl, rfl⟩)
    | (refine Rg.runW (by rfl) _ _ (op_build H0.out ?_) ?_; · exact ⟨_, rfl, rfl⟩))
  clear hba hw6 H45 H6 HX6 HB6
  refine (HS.out _ _ _ _ _ _ _ HX7.out (by rw [HZ.out]; exact IsBs.nil _)).mono ?_
  rintro e w8 ⟨rfl, hb8⟩
  have HB8 := Lib.hid (below_step' HB7.out hb8)
  clear hb8
  go_wp2
  go_ret
  exact ⟨rfl, HB8.out⟩

set_option maxRecDepth 100000 in
set_option maxHeartbeats 8000000 in
theorem walk_some (s : ByteArray) (hn : s.size ≤ 1500) (N : Nd) (hg : getP s.data.toList = some N) (w : World) :
    Calls Try.prog 4 #[.string s] w fun e w' => e = .returned (.bool true) ∧ Below w.heap.size w w' := by
  have hd : decide (1500 < (s.size : Int)) = false := by simp; omega
  have hG := nget_any s (by omega)
  have hR := rget_any s (by omega)
  unfold GetC at hG
  unfold RGetC at hR
  rw [hg] at hG hR
  have HG := Lib.hid hG
  have HR := Lib.hid hR
  have HAw := Lib.hid (fun w => awake_any w)
  obtain ⟨_, hp, hm, hl⟩ := whole_get (by rw [len_s]; omega) hg
  have HS := Lib.hid (rsame_one N hl)
  have HP := Lib.hid (fun w a n c h => rput_of N a n c hl w h hm)
  rw [hp, ba_self] at HP
  clear hg hG hR hm hp
  have HL := Lib.hid hl
  clear hl
  go_enter Try.func4, Try.ntmps4
  go_wp2_with fail
  refine (HG.out _).mono ?_
  rintro e w3 ⟨N', a3, n3, c3, er, rfl, hr3, hx3, hl3, hb3⟩
  obtain ⟨rfl, rfl⟩ : er = 0 ∧ N' = N := by
    rcases hr3 with ⟨h, h1⟩ | ⟨_, _, h⟩
    · exact ⟨h, (Option.some.inj h1).symm⟩
    · cases h
  obtain ⟨w4, hw4, h34, h4, hx4, hb4, hb34, hlt4⟩ := boxed w w3 hb3 N' a3 n3 c3 hx3.1
  have H34 := Lib.hid h34
  have H4 := Lib.hid h4
  have HX4 := Lib.hid hx4
  have HB4 := Lib.hid hb4
  clear hr3 hx3 hl3 hb3 h34 h4 hx4 hb4 hb34
  go_wp2_with (first
    | (refine Rg.run rfl _ _ (run_alloc_nd _ _ _ w3.heap.size rfl rfl) ?_)
    | (refine wpl_store_nd H34.out rfl N' a3 n3 c3 HL.out rfl _ _ rfl rfl rfl rfl ?_))
  rw [← hw4]
  obtain ⟨g, hg⟩ : ∃ g, w3.heap.size = g := ⟨_, rfl⟩
  rw [hg] at H4 hlt4 ⊢
  clear hw4 H34 hg
  refine (HR.out _).mono ?_
  rintro e w5 ⟨M, a5, n5, c5, b5, rfl, hr5, hx5, hl5, hb5⟩
  obtain ⟨rfl, rfl⟩ : b5 = true ∧ M = N' := by
    rcases hr5 with ⟨h, h1⟩ | ⟨_, h⟩
    · exact ⟨h, (Option.some.inj h1).symm⟩
    · cases h
  have H45 : Hid (OwnN (w5.alloc (.cells (ndC nd0 none 0 0) 25)) w5.heap.size nd0 none 0 0) := Lib.hid (Rg.Own.new _ _ _)
  have hb56 : Below w5.heap.size w5 ((w5.alloc (.cells (ndC nd0 none 0 0) 25)).setRow w5.heap.size (ndC M a5 n5 c5)) := below_rowN (al1 _ _) (Nat.le_refl _) _
  obtain ⟨w6, hw6⟩ : ∃ w6, w6 = (w5.alloc (.cells (ndC nd0 none 0 0) 25)).setRow w5.heap.size (ndC M a5 n5 c5) := ⟨_, rfl⟩
  have H5 : Hid (OwnN w6 w5.heap.size M a5 n5 c5) := Lib.hid (by rw [hw6]; exact own_rowN H45.out)
  rw [← hw6] at hb56
  have hb46 := below_step' hb5 hb56
  have H6 := Lib.hid (H4.out.below hb46)
  have HX6 := Lib.hid (HX4.out.below hb46)
  have HY6 := Lib.hid (hx5.1.below hb56)
  have HB6 := Lib.hid (below_step' HB4.out hb46)
  clear hr5 hx5 hl5 hb5 hb56 hb46 H4 HX4 HB4 hlt4
  go_wp2_with (first
    | (refine Rg.run rfl _ _ (run_alloc_nd _ _ _ w5.heap.size rfl rfl) ?_)
    | (refine wpl_store_nd H45.out rfl M a5 n5 c5 HL.out rfl _ _ rfl rfl rfl rfl ?_)
    | (go_at_call 7; with_reducible refine (HAw.out _).mono ?_; rintro e wa ⟨rfl, hba⟩; rw [← hw6] at hba; have H7 := Lib.hid (H6.out.below hba); have H8 := Lib.hid (H5.out.below hba); have HX7 := Lib.hid (HX6.out.below hba); have HY7 := Lib.hid (HY6.out.below hba); have HB7 := Lib.hid (below_step' HB6.out hba))
    | (refine Rg.runW (by rfl) _ _ (op_load_nd H7.out HL.out ?_) ?_; · exact ⟨_, rfl, rfl⟩)
    | (refine Rg.runW (by rfl) _ _ (op_load_nd H8.out HL.out ?_) ?_; · exact ⟨_, rfl, rfl⟩))
  clear hba hw6 H45 H5 H6 HX6 HY6 HB6
  refine (HS.out _ _ _ _ _ _ _ HX7.out HY7.out).mono ?_
  rintro e w8 ⟨rfl, hb8⟩
  have H9 := Lib.hid (H7.out.below hb8)
  have HP8 := Lib.hid (HP.out w8 _ _ _ (HX7.out.below hb8))
  have HB8 := Lib.hid (below_step' HB7.out hb8)
  clear hb8 H7 H8 HX7 HY7 HB7
  go_wp2_with (refine Rg.runW (by rfl) _ _ (op_load_nd H9.out HL.out ?_) ?_; · exact ⟨_, rfl, rfl⟩)
  refine HP8.out.mono ?_
  rintro e w9 ⟨rfl, hb9⟩
  have HB9 := Lib.hid (below_step' HB8.out hb9)
  clear hb9
  go_wp2
  go_ret
  exact ⟨rfl, HB9.out⟩

theorem walk (s : ByteArray) (w : World) : Calls Try.prog 4 #[.string s] w fun e w' => e = .returned (.bool true) ∧ Below w.heap.size w w' := by
  by_cases hbig : 1500 < s.size
  · exact walk_big s hbig w
  · cases hg : getP s.data.toList with
    | none => exact walk_none s (by omega) hg w
    | some N => exact walk_some s (by omega) N hg w

set_option maxRecDepth 100000 in
theorem lifted (os : Os) (started : os.Started) (H : Type) (enc : TypeId × Value → H) :
    ReturnsInHanded {} Try.checked os 4 .any (Rows.nodeGetsSpec.pre6 enc Try.prog Try.f4 Rows.nodeGetsRow.domain false) (Rows.nodeGetsSpec.post enc Try.prog Try.f4 false true false false) := by
  refine returnsInHanded_of_change (C := Try.checked) own started (by kernel_rfl) Try.func4
    (ChangeSpec.witness6 (enc := enc) (C := Try.checked) false ⟨#[], #[.string ByteArray.empty], []⟩ 8 (by kernel_rfl) (by kernel_rfl) (by kernel_rfl) (by kernel_rfl)) ?_
  intro W base args ds gs before hval0 hW _ _
  have hval : ∀ (j : Nat) t v, Try.f4.params[j]? = some t → args[j]? = some v → Value.okWide Try.prog W .any base t v := hval0
  have hW' := hW
  obtain ⟨p, q, hA0, hV, rfl, hfz, hnd⟩ := hW
  have hA : DataW.TrodAll enc Try.prog W 0 (fun _ => true) true Try.f4.params.toList args.toList ds p := hA0
  rw [Try.params4] at hA hval
  obtain ⟨v0, vs0, d0, ds0, p0, q0, hargs, rfl, rfl, h0, r0⟩ := trodAll_cons hA
  obtain ⟨rfl, rfl, rfl⟩ := trodAll_nil r0
  obtain rfl : args = #[v0] := by cases args; simp_all
  obtain ⟨rfl, rfl⟩ := trodVars_none hV
  have k0 := h0
  have lt0 : ∀ x ∈ p0, x.block < W.heap.size := by obtain ⟨m, hm⟩ := k0; exact DataW.trod_lt m _ _ _ hm
  obtain ⟨a0, rfl, hd0, hp0, w0⟩ := open_string Try.underlying9 (hval 0 9 v0 rfl rfl) h0
  clear hA0 hval0
  refine (walk a0 W).mono fun e W' ⟨he, bel⟩ => ?_
  subst he
  exact ⟨_, rfl, _, _, _, [], _, [], hW', trodAll_mk1 (shut_bool Try.underlying4 _), (trodAll_cons_mk (Below.trod laidOut (by kernel_rfl) (of_decide_eq_true (by kernel_rfl)) k0 bel lt0) trodAll_mk0), rfl, bel.frame _, fun h => by cases h⟩

theorem over : Rows.nodeGetsRow.holds Try.pinned (OpenSpec.ofChange Rows.nodeGetsSpec) :=
  OpenClaim.holds_of_wide 4 Try.f4 rfl rfl rfl rfl rfl rfl rfl ⟨rfl, rfl, rfl, rfl, rfl⟩ rfl rfl rfl rfl rfl (by kernel_rfl) Try.func4 (by kernel_rfl)
    (of_decide_eq_true (by kernel_rfl)) (by unfold Func.isWrapper; first | (rw [if_pos (by decide +kernel)]; kernel_rfl) | (rw [if_neg (by decide +kernel)]; exact ⟨rfl, rfl⟩))
    (fun os started H enc _ => lifted os started H enc)

theorem proved : Rows.NodeGetsSaid := over

end Go.Proofs.Ytbdhncaiffepoaa.nodeGets
