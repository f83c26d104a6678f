/-
  NodeParts: which texts are references is the plain answer's; a node's references are those that are not empty, in order; a leaf, an extension and a branch are such nodes of their parts; whether two nodes are the same is the plain answer's; for every two nodes and every text (where one is far too great: the law asks what comes at any rate).
-/
import Derived.Test.YtbdhncaiffepoaaMg11
import Derived.Test.YtbdhncaiffepoaaMg14
import Derived.OpenShut
import Derived.ShutString
import Derived.ChangeOld
import Derived.Below
import Derived.Deep.DeepCutAuto
namespace Go.Proofs.Ytbdhncaiffepoaa.nodeParts
open Go.ChangeShapes Go.WideShapes Go.ChangeAt Go.RowKit
open Go.ChangeMaps (open_string shut_string)
open No Rl

theorem own : ownKnob Try.prog.godebug = none := by kernel_rfl
theorem laidOut : laidOutB Try.prog = true := by kernel_rfl

theorem rsame_one (N : Nd) (hl : N.ks.length = 16) (w : World) (a b : Option Addr) (n m c d : Nat) (h : IsBs w a n c N.p) (g : IsBs w b m d N.p) : Calls Try.prog 13 #[.agg (ndC N a n c), .agg (ndC N b m d)] w fun e w' => e = .returned (.bool true) ∧ Below w.heap.size w w' := by
  have := rsame_any N N _ _ w ⟨a, n, c, rfl, h, hl⟩ ⟨b, m, d, rfl, g, hl⟩
  rw [sameB_true rfl] at this
  exact this
theorem light_len {N : Nd} (h : lightB N = true) : N.p.length ≤ 100 := by
  unfold lightB at h
  rw [Bool.and_eq_true, Bool.and_eq_true] at h
  exact of_decide_eq_true h.1.2
theorem op_eq_bool {ev : Operand → Value} {o : Oper} {w : World} (b : Bool) (h : ∃ x y, o.op = .binOp .eql 4 x y 4 ∧ ev x = .bool b ∧ ev y = .bool b) :
    (execOp ev o).run Try.prog w = .ok (.value (.bool true)) w := by
  obtain ⟨x, y, ho, hx, hy⟩ := h
  cases b
  all_goals
    unfold execOp
    rw [ho]
    simp only [hx, hy]
    kernel_rfl
/-- the two nodes and all that they have -/
structure PS (w : World) (A B : Nd) (a b : Option Addr) (n c m d : Nat) (w' : World) : Prop where
  oa : OwnN w' w.heap.size A a n c
  ob : OwnN w' (w.heap.size + 1) B b m d
  xa : IsBs w' a n c A.p
  xb : IsBs w' b m d B.p
  be : Below w.heap.size w w'
theorem PS.keep {w w1 w2 : World} {A B : Nd} {a b : Option Addr} {n c m d : Nat} (h : PS w A B a b n c m d w1) (hb : Below w1.heap.size w1 w2) : PS w A B a b n c m d w2 :=
  ⟨h.oa.below hb, h.ob.below hb, h.xa.below hb, h.xb.below hb, below_step' h.be hb⟩
theorem ps_new (w : World) (A B : Nd) (a b : Option Addr) (n c m d : Nat) (ha : IsBs w a n c A.p) (hb : IsBs w b m d B.p) : ∃ w2, w2 = (w.alloc (.cells (ndC A a n c) 25)).alloc (.cells (ndC B b m d) 25) ∧ PS w A B a b n c m d w2 := by
  obtain ⟨w2, hw2, h1, h2, hbe⟩ := two_nodes w A B a b n m c d
  exact ⟨w2, hw2, h1, h2, ha.below hbe, hb.below hbe, hbe⟩
/-- a node that was told, in a box -/
theorem boxed (w : World) (N : Nd) (a : Option Addr) (n c : Nat) (h : IsBs w a n c N.p) : ∃ w4, w4 = (w.alloc (.cells (ndC nd0 none 0 0) 25)).setRow w.heap.size (ndC N a n c) ∧
    OwnN (w.alloc (.cells (ndC nd0 none 0 0) 25)) w.heap.size nd0 none 0 0 ∧ OwnN w4 w.heap.size N a n c ∧ IsBs w4 a n c N.p ∧ Below w.heap.size w w4 := by
  have h1 : OwnN (w.alloc (.cells (ndC nd0 none 0 0) 25)) w.heap.size nd0 none 0 0 := Rg.Own.new _ _ _
  have h2 : Below w.heap.size w ((w.alloc (.cells (ndC nd0 none 0 0) 25)).setRow w.heap.size (ndC N a n c)) := below_rowN (al1 _ _) (Nat.le_refl _) _
  exact ⟨_, rfl, h1, own_rowN h1, h.below h2, h2⟩
set_option maxRecDepth 100000 in
set_option maxHeartbeats 4000000 in
theorem walk_heavyA (A B : Nd) (a b : Option Addr) (n c m d : Nat) (s : ByteArray) (hl : A.ks.length = 16) (hl2 : B.ks.length = 16) (w : World) (ha : IsBs w a n c A.p) (hb : IsBs w b m d B.p) (hh : lightB A = false) :
    Calls Try.prog 5 #[.agg (ndC A a n c), .agg (ndC B b m d), .string s] w fun e w' => e = .returned (.bool true) ∧ Below w.heap.size w w' := by
  obtain ⟨w2, hw2, h2⟩ := ps_new w A B a b n c m d ha hb
  have H2 := Lib.hid h2
  have HLa := Lib.hid (fun w => light_any A a n c hl ha.len (Nat.le_trans ha.1 ha.2.1) w)
  have HLb := Lib.hid (fun w => light_any B b m d hl2 hb.len (Nat.le_trans hb.1 hb.2.1) w)
  have HAw := Lib.hid (fun w => awake_any w)
  have HL := Lib.hid hl
  have HL2 := Lib.hid hl2
  have HOA := Lib.hid h2.oa
  rw [hh] at HLa
  clear h2 hl hl2 ha hb hh
  subst hw2
  go_enter Try.func5, Try.ntmps5
  go_wp2_with (refine Rg.runW (by rfl) _ _ (op_load_nd HOA.out HL.out ?_) ?_; · exact ⟨_, rfl, rfl⟩)
  refine (HLa.out _).mono ?_
  rintro e w3 ⟨rfl, hb3⟩
  have H3 := Lib.hid (H2.out.keep hb3)
  have HOB := Lib.hid (H2.out.keep hb3).ob
  clear hb3 HLa
  have HBe := Lib.hid H3.out.be
  clear H3 HOB
  go_upto_if 25 with fail
  go_wp2_with (go_at_call 7; with_reducible refine (HAw.out _).mono ?_; rintro e wa ⟨rfl, hba⟩)
  have HBa := Lib.hid (below_step' HBe.out hba)
  clear hba
  go_wp2
  go_ret
  exact ⟨rfl, HBa.out⟩

set_option maxRecDepth 100000 in
set_option maxHeartbeats 4000000 in
theorem walk_heavyB (A B : Nd) (a b : Option Addr) (n c m d : Nat) (s : ByteArray) (hl : A.ks.length = 16) (hl2 : B.ks.length = 16) (w : World) (ha : IsBs w a n c A.p) (hb : IsBs w b m d B.p) (hh : lightB A = true) (hh2 : lightB B = false) :
    Calls Try.prog 5 #[.agg (ndC A a n c), .agg (ndC B b m d), .string s] w fun e w' => e = .returned (.bool true) ∧ Below w.heap.size w w' := by
  obtain ⟨w2, hw2, h2⟩ := ps_new w A B a b n c m d ha hb
  have H2 := Lib.hid h2
  have HLa := Lib.hid (fun w => light_any A a n c hl ha.len (Nat.le_trans ha.1 ha.2.1) w)
  have HLb := Lib.hid (fun w => light_any B b m d hl2 hb.len (Nat.le_trans hb.1 hb.2.1) w)
  have HAw := Lib.hid (fun w => awake_any w)
  have HL := Lib.hid hl
  have HL2 := Lib.hid hl2
  have HOA := Lib.hid h2.oa
  rw [hh] at HLa
  rw [hh2] at HLb
  clear h2 hl hl2 ha hb hh hh2
  subst hw2
  go_enter Try.func5, Try.ntmps5
  go_wp2_with (refine Rg.runW (by rfl) _ _ (op_load_nd HOA.out HL.out ?_) ?_; · exact ⟨_, rfl, rfl⟩)
  refine (HLa.out _).mono ?_
  rintro e w3 ⟨rfl, hb3⟩
  have H3 := Lib.hid (H2.out.keep hb3)
  have HOB := Lib.hid (H2.out.keep hb3).ob
  clear hb3 HLa
  go_wp2_with (refine Rg.runW (by rfl) _ _ (op_load_nd HOB.out HL2.out ?_) ?_; · exact ⟨_, rfl, rfl⟩)
  refine (HLb.out _).mono ?_
  rintro e w4 ⟨rfl, hb4⟩
  have HBe := Lib.hid (H3.out.keep hb4).be
  clear hb4 H3 HOB
  go_upto_if 25 with fail
  go_wp2_with (go_at_call 7; with_reducible refine (HAw.out _).mono ?_; rintro e wa ⟨rfl, hba⟩)
  have HBa := Lib.hid (below_step' HBe.out hba)
  clear hba
  go_wp2
  go_ret
  exact ⟨rfl, HBa.out⟩

set_option maxRecDepth 100000 in
set_option maxHeartbeats 4000000 in
theorem walk_heavyS (A B : Nd) (a b : Option Addr) (n c m d : Nat) (s : ByteArray) (hl : A.ks.length = 16) (hl2 : B.ks.length = 16) (w : World) (ha : IsBs w a n c A.p) (hb : IsBs w b m d B.p) (hh : lightB A = true) (hh2 : lightB B = true) (hs : 200 < s.size) :
    Calls Try.prog 5 #[.agg (ndC A a n c), .agg (ndC B b m d), .string s] w fun e w' => e = .returned (.bool true) ∧ Below w.heap.size w w' := by
  obtain ⟨w2, hw2, h2⟩ := ps_new w A B a b n c m d ha hb
  have H2 := Lib.hid h2
  have HLa := Lib.hid (fun w => light_any A a n c hl ha.len (Nat.le_trans ha.1 ha.2.1) w)
  have HLb := Lib.hid (fun w => light_any B b m d hl2 hb.len (Nat.le_trans hb.1 hb.2.1) w)
  have HAw := Lib.hid (fun w => awake_any w)
  have HL := Lib.hid hl
  have HL2 := Lib.hid hl2
  have HOA := Lib.hid h2.oa
  rw [hh] at HLa
  rw [hh2] at HLb
  have hd : decide (200 < (s.size : Int)) = true := by simp; omega
  clear h2 hl hl2 ha hb hh hh2
  subst hw2
  go_enter Try.func5, Try.ntmps5
  go_wp2_with (refine Rg.runW (by rfl) _ _ (op_load_nd HOA.out HL.out ?_) ?_; · exact ⟨_, rfl, rfl⟩)
  refine (HLa.out _).mono ?_
  rintro e w3 ⟨rfl, hb3⟩
  have H3 := Lib.hid (H2.out.keep hb3)
  have HOB := Lib.hid (H2.out.keep hb3).ob
  clear hb3 HLa
  go_wp2_with (refine Rg.runW (by rfl) _ _ (op_load_nd HOB.out HL2.out ?_) ?_; · exact ⟨_, rfl, rfl⟩)
  refine (HLb.out _).mono ?_
  rintro e w4 ⟨rfl, hb4⟩
  have HBe := Lib.hid (H3.out.keep hb4).be
  clear hb4 H3 HOB
  go_upto_if 25 with fail
  go_wp2_with (go_at_call 7; with_reducible refine (HAw.out _).mono ?_; rintro e wa ⟨rfl, hba⟩)
  have HBa := Lib.hid (below_step' HBe.out hba)
  clear hba
  go_wp2
  go_ret
  exact ⟨rfl, HBa.out⟩

set_option maxRecDepth 100000 in
set_option maxHeartbeats 40000000 in
theorem walk_light (A B : Nd) (a b : Option Addr) (n c m d : Nat) (s : ByteArray) (hl : A.ks.length = 16) (hl2 : B.ks.length = 16) (w : World) (ha : IsBs w a n c A.p) (hb : IsBs w b m d B.p) (hh : lightB A = true) (hh2 : lightB B = true) (hs : s.size ≤ 200) :
    Calls Try.prog 5 #[.agg (ndC A a n c), .agg (ndC B b m d), .string s] w fun e w' => e = .returned (.bool true) ∧ Below w.heap.size w w' := by
  have hn := light_len hh
  rw [ha.len] at hn
  obtain ⟨w2, hw2, h2⟩ := ps_new w A B a b n c m d ha hb
  have H2 := Lib.hid h2
  have HLa := Lib.hid (fun w => light_any A a n c hl ha.len (Nat.le_trans ha.1 ha.2.1) w)
  have HLb := Lib.hid (fun w => light_any B b m d hl2 hb.len (Nat.le_trans hb.1 hb.2.1) w)
  have HAw := Lib.hid (fun w => awake_any w)
  have HL := Lib.hid hl
  have HL2 := Lib.hid hl2
  have HOA := Lib.hid h2.oa
  rw [hh] at HLa
  rw [hh2] at HLb
  have hd : decide (200 < (s.size : Int)) = false := by simp; omega
  have HLf := Lib.hid (fun w h => leaf_any a n c A.p (by omega) A.v w h)
  have HEx : Hid (∀ w, IsBs w a n c A.p → Calls Try.prog 16 #[.slice a n c, .string s] w (GotNd w ⟨2, A.p, eB, one16 s⟩)) := Lib.hid (fun w h => ext_any a n c A.p (by omega) s w h)
  have HBr := Lib.hid (fun w => branch_any A.ks hl w)
  have HS1 := Lib.hid (rsame_one ⟨1, A.p, A.v, zks⟩ zks_length)
  have HS3 := Lib.hid (rsame_one ⟨3, [], eB, A.ks⟩ hl)
  have HKs := Lib.hid (fun w => kids_any A a n c hl w)
  have HSm := Lib.hid (fun w (h : IsBs w a n c A.p) (g : IsBs w b m d B.p) => same_any A B _ _ w ⟨a, n, c, rfl, h, hl⟩ ⟨b, m, d, rfl, g, hl2⟩)
  have HSr := Lib.hid (fun w (h : IsBs w a n c A.p) (g : IsBs w b m d B.p) => rsame_any A B _ _ w ⟨a, n, c, rfl, h, hl⟩ ⟨b, m, d, rfl, g, hl2⟩)
  have hRf := ref_any s (by omega)
  have hRr := rrefs_any s (by omega)
  unfold RefC at hRf
  unfold RRefC at hRr
  obtain ⟨sb, hsb⟩ : ∃ sb, sameB A B = sb := ⟨_, rfl⟩
  obtain ⟨rs, hrs⟩ : ∃ rs, refP s = rs := ⟨_, rfl⟩
  rw [hsb] at HSm HSr
  rw [hrs] at hRf hRr
  have HRf := Lib.hid hRf
  have HRr := Lib.hid hRr
  obtain ⟨i0, hi, hz0, hz1, hz2⟩ := info_st_parts
  have HI : Hid (_ ∧ _ ∧ _ ∧ _) := Lib.hid ⟨hi, hz0, hz1, hz2⟩
  clear h2 hl hl2 ha hb hh hh2 hRf hRr hsb hrs hi hz0 hz1 hz2
  subst hw2
  go_enter Try.func5, Try.ntmps5
  go_wp2_with (refine Rg.runW (by rfl) _ _ (op_load_nd HOA.out HL.out ?_) ?_; · exact ⟨_, rfl, rfl⟩)
  refine (HLa.out _).mono ?_
  rintro e w3 ⟨rfl, hb3⟩
  have H3 := Lib.hid (H2.out.keep hb3)
  have HOB := Lib.hid (H2.out.keep hb3).ob
  clear hb3 HLa
  go_wp2_with (refine Rg.runW (by rfl) _ _ (op_load_nd HOB.out HL2.out ?_) ?_; · exact ⟨_, rfl, rfl⟩)
  refine (HLb.out _).mono ?_
  rintro e w4 ⟨rfl, hb4⟩
  have H4 := Lib.hid (H3.out.keep hb4)
  clear hb4 H3 HOB HLb HOA H2
  go_wp2
  go_loopw [7, 8] (fun v i wr => ∃ j : Nat, j ≤ 16 ∧ i = .int .i64 j ∧ Hid (wr.ownsRow w4.heap.size 9 1 v (kidsL (A.ks.take j)).length ((kidsL (A.ks.take j)).map Value.string)) ∧ Hid (Below w4.heap.size w4 wr)) (fun _ i _ => 16 - (intOf i).toNat)
  case atStart => exact ⟨0, Nat.zero_le _, rfl, Lib.hid (World.ownsRow_nil _ _ _ _), Lib.hid (Below.refl _ _)⟩
  case round =>
    obtain ⟨j, hj, rfl, HR, HB⟩ := hrel
    have HPr := Lib.hid (H4.out.keep HB.out)
    have hsz := HB.out.size
    by_cases hlt : j < 16
    · have HS := Lib.hid (kidsL_snoc A.ks j (by rw [HL.out]; exact hlt))
      have hkl := kidsL_len A.ks j
      have hc := nd_kid HPr.out.oa HL.out j hlt
      obtain ⟨L, hL⟩ : ∃ L, kidsL (A.ks.take j) = L := ⟨_, rfl⟩
      rw [hL] at HS hkl HR
      clear hL
      by_cases hk : (A.ks.getD j eB).size = 0
      · have HS' : Hid (kidsL (A.ks.take (j + 1)) = L) := Lib.hid (by rw [HS.out, if_neg (by simpa using hk), List.append_nil])
        have he := size_zero hk
        rw [he] at hc
        clear hk he HS
        go_wp2
        go_roundw
        case rel => exact ⟨j + 1, by omega, by go_num, by rw [HS'.out]; exact HR, HB⟩
        case measure => simp [intOf]; omega
      · have HS' : Hid (kidsL (A.ks.take (j + 1)) = L ++ [A.ks.getD j eB]) := Lib.hid (by rw [HS.out, if_pos hk])
        have hne := Ni.not_empty (s := A.ks.getD j eB) (by omega)
        obtain ⟨K, hK⟩ : ∃ K, A.ks.getD j eB = K := ⟨_, rfl⟩
        rw [hK] at hne HS' hc
        clear hK hk HS
        go_wp2_with (at_builtin; refine wpList_append_own _ rfl _ _ 39 rfl w4.heap.size 9 i0 (.string ⟨#[]⟩) 1 16 Try.underlying39 HI.out.1 HI.out.2.1 HI.out.2.2.1 HI.out.2.2.2 rfl (by decide) _ _ _ rfl (HR.out.alloc _) ⟨wr.heap.size, 0, none⟩ 1 1 [.string K] rfl rfl ?d1 ?d2 ?d3 ?d4 ?d5 ?_)
        case d1 => exact Bu.cell_one_new' _ _ _ _
        case d2 => intro u hu; simp at hu; subst hu; rfl
        case d3 => unfold maxLen; omega
        case d4 => omega
        case d5 => simp; omega
        intro v' w5 hown2 hgrow _
        have hlt' := HR.out.lt
        go_wp2
        go_roundw
        case rel => exact ⟨j + 1, by omega, by go_num, Lib.hid (by rw [HS'.out, List.length_append, List.map_append]; exact hown2), Lib.hid ((HB.out.alloc hsz _).grown hgrow (by simp; omega) (fun g hg => (hlt' g hg).1))⟩
        case measure => simp [intOf]; omega
    · obtain rfl : j = 16 := by omega
      have hO := HR.out
      rw [List.take_of_length_le (by rw [HL.out]; exact Nat.le_refl _)] at hO
      obtain ⟨a', cap', rfl, hst⟩ := IsSt.ofOwn hO
      have HT := Lib.hid hst
      obtain ⟨KL, hKL⟩ : ∃ KL, kidsL A.ks = KL := ⟨_, rfl⟩
      rw [hKL] at HT HKs ⊢
      obtain ⟨c0, c1, c2⟩ := nd_cells HPr.out.oa
      clear hO hst H4 HR HB HI hKL hsz
      go_wp2_with fail
      refine (HLf.out _ HPr.out.xa).mono ?_
      rintro e w5 ⟨a5, n5, c5, rfl, hx5, hl5, hb5⟩
      have HP5 := Lib.hid (HPr.out.keep hb5)
      have HT5 := Lib.hid (HT.out.below hb5)
      obtain ⟨w6, hw6, hn6, ho6, hx6, hb6⟩ := boxed w5 ⟨1, A.p, A.v, zks⟩ a5 n5 c5 hx5.1
      have HN6 := Lib.hid hn6
      have HO6 := Lib.hid ho6
      have HX6 := Lib.hid hx6
      have HP6 := Lib.hid (HP5.out.keep hb6)
      have HT6 := Lib.hid (HT5.out.below hb6)
      obtain ⟨c0, c1, c2⟩ := nd_cells HP6.out.oa
      rw [hw6] at c0 c1 c2
      clear hx5 hl5 hb5 hn6 ho6 hx6 hb6 HP5 HT5 HPr HT
      go_wp2_with (first
        | (refine Rg.run rfl _ _ (run_alloc_nd _ _ _ w5.heap.size rfl rfl) ?_)
        | (refine wpl_store_nd HN6.out rfl ⟨1, A.p, A.v, zks⟩ a5 n5 c5 rfl rfl _ _ rfl rfl rfl rfl ?_))
      rw [← hw6]
      rw [← hw6] at c0 c1 c2
      obtain ⟨g9, hg9⟩ : ∃ g, w5.heap.size = g := ⟨_, rfl⟩
      rw [hg9] at HO6 ⊢
      clear hw6 HN6 hg9
      refine (HEx.out _ HP6.out.xa).mono ?_
      rintro e w7 ⟨a7, n7, c7, rfl, hx7, hl7, hb7⟩
      have HP7 := Lib.hid (HP6.out.keep hb7)
      have HT7 := Lib.hid (HT6.out.below hb7)
      have HO7 := Lib.hid (HO6.out.below hb7)
      have HX7 := Lib.hid (HX6.out.below hb7)
      obtain ⟨w8, hw8, hn8, ho8, hx8, hb8⟩ := boxed w7 ⟨2, A.p, eB, one16 s⟩ a7 n7 c7 hx7.1
      have HN8 := Lib.hid hn8
      have HO8 := Lib.hid ho8
      have HX8 := Lib.hid hx8
      have HP8 := Lib.hid (HP7.out.keep hb8)
      have HT8 := Lib.hid (HT7.out.below hb8)
      have HQ8 := Lib.hid (HO7.out.below hb8)
      have HY8 := Lib.hid (HX7.out.below hb8)
      have hoa := HP8.out.oa
      rw [hw8] at hoa
      have HOA := Lib.hid hoa
      clear hx7 hl7 hb7 hn8 ho8 hx8 hb8 HP7 HT7 HO7 HX7 HP6 HT6 HO6 HX6 hoa c0 c1 c2
      go_wp2_with (first
        | (refine Rg.run rfl _ _ (run_alloc_nd _ _ _ w7.heap.size rfl rfl) ?_)
        | (refine wpl_store_nd HN8.out rfl ⟨2, A.p, eB, one16 s⟩ a7 n7 c7 (one16_length s) rfl _ _ rfl rfl rfl rfl ?_)
        | (refine Rg.run rfl _ _ (op_load_ks HOA.out HL.out ⟨_, rfl, rfl⟩) ?_))
      rw [← hw8]
      obtain ⟨g10, hg10⟩ : ∃ g, w7.heap.size = g := ⟨_, rfl⟩
      rw [hg10] at HO8 ⊢
      clear hw8 HN8 hg10 HOA
      refine (HBr.out _).mono ?_
      rintro e w9 ⟨a9, n9, c9, rfl, hx9, hl9, hb9⟩
      have HP9 := Lib.hid (HP8.out.keep hb9)
      have HT9 := Lib.hid (HT8.out.below hb9)
      have HO9 := Lib.hid (HO8.out.below hb9)
      have HX9 := Lib.hid (HX8.out.below hb9)
      have HQ9 := Lib.hid (HQ8.out.below hb9)
      have HY9 := Lib.hid (HY8.out.below hb9)
      obtain ⟨w10, hw10, hn10, ho10, hx10, hb10⟩ := boxed w9 ⟨3, [], eB, A.ks⟩ a9 n9 c9 hx9.1
      have HN10 := Lib.hid hn10
      have HO10 := Lib.hid ho10
      have HX10 := Lib.hid hx10
      have HP10 := Lib.hid (HP9.out.keep hb10)
      have HT10 := Lib.hid (HT9.out.below hb10)
      have HR10 := Lib.hid (HO9.out.below hb10)
      have HZ10 := Lib.hid (HX9.out.below hb10)
      have HQ10 := Lib.hid (HQ9.out.below hb10)
      have HY10 := Lib.hid (HY9.out.below hb10)
      have hq := HQ10.out
      rw [hw10] at hq
      have HQl := Lib.hid hq
      obtain ⟨c0, c1, c2⟩ := nd_cells HP10.out.oa
      rw [hw10] at c0 c1 c2
      clear hx9 hl9 hb9 hn10 ho10 hx10 hb10 HP9 HT9 HO9 HX9 HQ9 HY9 HP8 HT8 HO8 HX8 HQ8 HY8 hq
      go_wp2_with (first
        | (refine Rg.run rfl _ _ (run_alloc_nd _ _ _ w9.heap.size rfl rfl) ?_)
        | (refine wpl_store_nd HN10.out rfl ⟨3, [], eB, A.ks⟩ a9 n9 c9 HL.out rfl _ _ rfl rfl rfl rfl ?_)
        | (refine Rg.run rfl _ _ (op_load_nd HQl.out zks_length ⟨_, rfl, rfl⟩) ?_)
        | (refine Rg.run rfl _ _ (op_build (built_leaf a n c A.p A.v) ?_) ?_; · exact ⟨_, rfl, rfl⟩))
      rw [← hw10]
      obtain ⟨g11, hg11⟩ : ∃ g, w9.heap.size = g := ⟨_, rfl⟩
      rw [hg11] at HO10 ⊢
      clear hw10 HN10 hg11 HQl HQ10 c0 c1 c2
      refine (HS1.out _ _ _ _ _ _ _ HY10.out HP10.out.xa).mono ?_
      rintro e w11 ⟨rfl, hb11⟩
      have HP11 := Lib.hid (HP10.out.keep hb11)
      have HT11 := Lib.hid (HT10.out.below hb11)
      have HE11 := Lib.hid (HR10.out.below hb11)
      have HB11 := Lib.hid (HO10.out.below hb11)
      have HW11 := Lib.hid (HX10.out.below hb11)
      obtain ⟨c0, c1, c2⟩ := nd_cells HP11.out.oa
      obtain ⟨d0, d1, d2⟩ := nd_cells HE11.out
      have dk : w11.cell? ⟨g10, 3, none⟩ = some (.string s) := nd_kid HE11.out (one16_length s) 0 (by decide)
      have hcv1 := conv_bs (HZ10.out.below hb11)
      have hcv2 := conv_bs HP11.out.xa
      have HOA := Lib.hid HP11.out.oa
      clear hb11 HP10 HT10 HR10 HO10 HZ10 HY10 HX10
      go_wp2_with (first
        | (refine Rg.runW (by rfl) _ _ (op_load_nd HB11.out HL.out ?_) ?_; · exact ⟨_, rfl, rfl⟩)
        | (refine Rg.runW (by rfl) _ _ (op_load_ks HOA.out HL.out ?_) ?_; · exact ⟨_, rfl, rfl⟩)
        | (refine Rg.runW (by rfl) _ _ (op_build (built_ks 3 A.ks HL.out) ?_) ?_; · exact ⟨_, rfl, rfl⟩))
      refine (HS3.out _ _ _ _ _ _ _ HW11.out (IsBs.nil _)).mono ?_
      rintro e w12 ⟨rfl, hb12⟩
      have HP12 := Lib.hid (HP11.out.keep hb12)
      have HT12 := Lib.hid (HT11.out.below hb12)
      clear hb12 HP11 HT11 HE11 HB11 HW11 c0 c1 c2 d0 d1 d2 dk hcv1 hcv2 HOA
      go_wp2_with fail
      refine wp_region_noPanic ?_
      refine wp_region_held_drew (S := fun w' => PS w A B a b n c m d w' ∧ IsSt w' a' _ cap' KL) (by kernel_rfl) (⟨HP12.out.keep (below_drewN (Below.refl _ _) 1), HT12.out.below (below_drewN (Below.refl _ _) 1)⟩) (fun hHeld => ?_)
      refine wpAnyH_ready (rs := [0]) (by kernel_rfl) (by simp) ?_
      refine Rg.readyL (i := 0) rfl (fun K hK => ?_)
      go_simp
      go_at_call 7
      (with_reducible refine (HAw.out _).mono ?_)
      rintro e wo0 ⟨rfl, hbx⟩
      refine hK.out _ _ ?_ (fun hHeld => ?_)
      · exact ⟨hHeld.1.keep hbx, hHeld.2.below hbx⟩
      clear hK K hbx
      try simp only [Act.put, List.setIfInBounds_toArray, List.set_cons_zero, List.set_cons_succ]
      refine Rg.takeL (i := 1) (v := ?_) rfl (by kernel_rfl) (by kernel_rfl) (by kernel_rfl) (fun _ _ _ h => h) (Or.inl ⟨by rfl, ?_⟩) (by assumption) ?_
      rotate_left
      · (intro wz hSw; (try dsimp only at hSw); go_simp <;> with_reducible rfl)
      try simp only [Act.put, List.setIfInBounds_toArray, List.set_cons_zero, List.set_cons_succ]
      refine Rg.takeL (i := 2) (v := ?_) rfl (by kernel_rfl) (by kernel_rfl) (by kernel_rfl) (fun _ _ _ h => h) (Or.inl ⟨by rfl, ?_⟩) (by assumption) ?_
      rotate_left
      · (intro wz hSw; (try dsimp only at hSw); go_simp <;> with_reducible rfl)
      try simp only [Act.put, List.setIfInBounds_toArray, List.set_cons_zero, List.set_cons_succ]
      refine Rg.takeL (i := 3) (v := ?_) rfl (by kernel_rfl) (by kernel_rfl) (by kernel_rfl) (fun _ _ _ h => h) (Or.inl ⟨by rfl, ?_⟩) (by assumption) ?_
      rotate_left
      · (intro wz hSw; (try dsimp only at hSw); go_simp <;> with_reducible rfl)
      try simp only [Act.put, List.setIfInBounds_toArray, List.set_cons_zero, List.set_cons_succ]
      refine Rg.takeL (i := 4) (v := ?_) rfl (by kernel_rfl) (by kernel_rfl) (by kernel_rfl) (fun _ _ _ h => h) (Or.inl ⟨by rfl, ?_⟩) (by assumption) ?_
      rotate_left
      · (intro wz hSw; (try dsimp only at hSw); go_simp <;> with_reducible rfl)
      try simp only [Act.put, List.setIfInBounds_toArray, List.set_cons_zero, List.set_cons_succ]
      refine Rg.takeL (i := 5) (v := ?_) rfl (by kernel_rfl) (by kernel_rfl) (by kernel_rfl) (fun _ _ _ h => h) (Or.inl ⟨by rfl, ?_⟩) (by assumption) ?_
      rotate_left
      · (intro wz hSw; (refine op_load_nd hSw.1.oa HL.out ?_; exact ⟨_, rfl, rfl⟩))
      try simp only [Act.put, List.setIfInBounds_toArray, List.set_cons_zero, List.set_cons_succ]
      refine Rg.takeL (i := 7) (v := ?_) rfl (by kernel_rfl) (by kernel_rfl) (by kernel_rfl) (fun _ _ _ h => h) (Or.inl ⟨by rfl, ?_⟩) (by assumption) ?_
      rotate_left
      · (intro wz hSw; (try dsimp only at hSw); go_simp <;> with_reducible rfl)
      try simp only [Act.put, List.setIfInBounds_toArray, List.set_cons_zero, List.set_cons_succ]
      refine wpAnyH_ready (rs := [6]) (by kernel_rfl) (by simp) ?_
      refine Rg.readyL (i := 6) rfl (fun K hK => ?_)
      go_simp
      go_at_call 19
      (with_reducible refine (HKs.out _).mono ?_)
      rintro e wo6 ⟨ka, kn, kc, rfl, hks, hbx⟩
      have hT6 := hHeld.2.below hbx
      have hS8 := rsameSt_any _ _ _ _ _ _ KL KL _ hks hT6
      rw [sameB_true rfl] at hS8
      refine hK.out _ _ ?_ (fun hHeld => ?_)
      · exact ⟨hHeld.1.keep hbx, hHeld.2.below hbx⟩
      clear hK K hbx hT6
      try simp only [Act.put, List.setIfInBounds_toArray, List.set_cons_zero, List.set_cons_succ]
      refine wpAnyH_ready (rs := [8]) (by kernel_rfl) (by simp) ?_
      refine Rg.readyL (i := 8) rfl (fun K hK => ?_)
      go_simp
      go_at_call 18
      (with_reducible refine (hS8).mono ?_)
      rintro e wo8 ⟨rfl, hbx⟩
      refine hK.out _ _ ?_ (fun hHeld => ?_)
      · exact ⟨hHeld.1.keep hbx, hHeld.2.below hbx⟩
      clear hK K hbx
      try simp only [Act.put, List.setIfInBounds_toArray, List.set_cons_zero, List.set_cons_succ]
      refine Rg.takeL (i := 9) (v := ?_) rfl (by kernel_rfl) (by kernel_rfl) (by kernel_rfl) (fun _ _ _ h => h) (Or.inl ⟨by rfl, ?_⟩) (by assumption) ?_
      rotate_left
      · (intro wz hSw; (try dsimp only at hSw); go_simp <;> with_reducible rfl)
      try simp only [Act.put, List.setIfInBounds_toArray, List.set_cons_zero, List.set_cons_succ]
      refine Rg.takeL (i := 10) (v := ?_) rfl (by kernel_rfl) (by kernel_rfl) (by kernel_rfl) (fun _ _ _ h => h) (Or.inl ⟨by rfl, ?_⟩) (by assumption) ?_
      rotate_left
      · (intro wz hSw; (try dsimp only at hSw); go_simp <;> with_reducible rfl)
      try simp only [Act.put, List.setIfInBounds_toArray, List.set_cons_zero, List.set_cons_succ]
      refine Rg.takeL (i := 11) (v := ?_) rfl (by kernel_rfl) (by kernel_rfl) (by kernel_rfl) (fun _ _ _ h => h) (Or.inl ⟨by rfl, ?_⟩) (by assumption) ?_
      rotate_left
      · (intro wz hSw; (refine op_load_nd hSw.1.oa HL.out ?_; exact ⟨_, rfl, rfl⟩))
      try simp only [Act.put, List.setIfInBounds_toArray, List.set_cons_zero, List.set_cons_succ]
      refine Rg.takeL (i := 12) (v := ?_) rfl (by kernel_rfl) (by kernel_rfl) (by kernel_rfl) (fun _ _ _ h => h) (Or.inl ⟨by rfl, ?_⟩) (by assumption) ?_
      rotate_left
      · (intro wz hSw; (refine op_load_nd hSw.1.ob HL2.out ?_; exact ⟨_, rfl, rfl⟩))
      try simp only [Act.put, List.setIfInBounds_toArray, List.set_cons_zero, List.set_cons_succ]
      refine Rg.takeL (i := 14) (v := ?_) rfl (by kernel_rfl) (by kernel_rfl) (by kernel_rfl) (fun _ _ _ h => h) (Or.inl ⟨by rfl, ?_⟩) (by assumption) ?_
      rotate_left
      · (intro wz hSw; (refine op_load_nd hSw.1.oa HL.out ?_; exact ⟨_, rfl, rfl⟩))
      try simp only [Act.put, List.setIfInBounds_toArray, List.set_cons_zero, List.set_cons_succ]
      refine Rg.takeL (i := 15) (v := ?_) rfl (by kernel_rfl) (by kernel_rfl) (by kernel_rfl) (fun _ _ _ h => h) (Or.inl ⟨by rfl, ?_⟩) (by assumption) ?_
      rotate_left
      · (intro wz hSw; (refine op_load_nd hSw.1.ob HL2.out ?_; exact ⟨_, rfl, rfl⟩))
      try simp only [Act.put, List.setIfInBounds_toArray, List.set_cons_zero, List.set_cons_succ]
      refine wpAnyH_ready (rs := [13]) (by kernel_rfl) (by simp) ?_
      refine Rg.readyL (i := 13) rfl (fun K hK => ?_)
      have hxa := hHeld.1.xa
      have hxb := hHeld.1.xb
      go_simp
      go_at_call 20
      (with_reducible refine (HSm.out _ hxa hxb).mono ?_)
      rintro e wo13 ⟨rfl, hbx⟩
      refine hK.out _ _ ?_ (fun hHeld => ?_)
      · exact ⟨hHeld.1.keep hbx, hHeld.2.below hbx⟩
      clear hK K hbx
      try simp only [Act.put, List.setIfInBounds_toArray, List.set_cons_zero, List.set_cons_succ]
      refine wpAnyH_ready (rs := [16]) (by kernel_rfl) (by simp) ?_
      refine Rg.readyL (i := 16) rfl (fun K hK => ?_)
      have hxa := hHeld.1.xa
      have hxb := hHeld.1.xb
      go_simp
      go_at_call 13
      (with_reducible refine (HSr.out _ hxa hxb).mono ?_)
      rintro e wo16 ⟨rfl, hbx⟩
      refine hK.out _ _ ?_ (fun hHeld => ?_)
      · exact ⟨hHeld.1.keep hbx, hHeld.2.below hbx⟩
      clear hK K hbx
      try simp only [Act.put, List.setIfInBounds_toArray, List.set_cons_zero, List.set_cons_succ]
      refine Rg.takeL (i := 17) (v := ?_) rfl (by kernel_rfl) (by kernel_rfl) (by kernel_rfl) (fun _ _ _ h => h) (Or.inl ⟨by rfl, ?_⟩) (by assumption) ?_
      rotate_left
      · (intro wz hSw; (refine op_eq_bool sb ?_; exact ⟨_, _, rfl, rfl, rfl⟩))
      try simp only [Act.put, List.setIfInBounds_toArray, List.set_cons_zero, List.set_cons_succ]
      refine Rg.takeL (i := 18) (v := ?_) rfl (by kernel_rfl) (by kernel_rfl) (by kernel_rfl) (fun _ _ _ h => h) (Or.inl ⟨by rfl, ?_⟩) (by assumption) ?_
      rotate_left
      · (intro wz hSw; (try dsimp only at hSw); go_simp <;> with_reducible rfl)
      try simp only [Act.put, List.setIfInBounds_toArray, List.set_cons_zero, List.set_cons_succ]
      refine Rg.takeL (i := 19) (v := ?_) rfl (by kernel_rfl) (by kernel_rfl) (by kernel_rfl) (fun _ _ _ h => h) (Or.inl ⟨by rfl, ?_⟩) (by assumption) ?_
      rotate_left
      · (intro wz hSw; (try dsimp only at hSw); go_simp <;> with_reducible rfl)
      try simp only [Act.put, List.setIfInBounds_toArray, List.set_cons_zero, List.set_cons_succ]
      refine Rg.takeL (i := 20) (v := ?_) rfl (by kernel_rfl) (by kernel_rfl) (by kernel_rfl) (fun _ _ _ h => h) (Or.inl ⟨by rfl, ?_⟩) (by assumption) ?_
      rotate_left
      · (intro wz hSw; (try dsimp only at hSw); go_simp <;> with_reducible rfl)
      try simp only [Act.put, List.setIfInBounds_toArray, List.set_cons_zero, List.set_cons_succ]
      refine Rg.takeL (i := 22) (v := ?_) rfl (by kernel_rfl) (by kernel_rfl) (by kernel_rfl) (fun _ _ _ h => h) (Or.inl ⟨by rfl, ?_⟩) (by assumption) ?_
      rotate_left
      · (intro wz hSw; (try dsimp only at hSw); go_simp <;> with_reducible rfl)
      try simp only [Act.put, List.setIfInBounds_toArray, List.set_cons_zero, List.set_cons_succ]
      refine wpAnyH_ready (rs := [21]) (by kernel_rfl) (by simp) ?_
      refine Rg.readyL (i := 21) rfl (fun K hK => ?_)
      go_simp
      go_at_call 21
      (with_reducible refine (HRf.out _).mono ?_)
      rintro e wo21 ⟨rfl, hbx⟩
      refine hK.out _ _ ?_ (fun hHeld => ?_)
      · exact ⟨hHeld.1.keep hbx, hHeld.2.below hbx⟩
      clear hK K hbx
      try simp only [Act.put, List.setIfInBounds_toArray, List.set_cons_zero, List.set_cons_succ]
      refine wpAnyH_ready (rs := [23]) (by kernel_rfl) (by simp) ?_
      refine Rg.readyL (i := 23) rfl (fun K hK => ?_)
      go_simp
      go_at_call 22
      (with_reducible refine (HRr.out _).mono ?_)
      rintro e wo23 ⟨rfl, hbx⟩
      refine hK.out _ _ ?_ (fun hHeld => ?_)
      · exact ⟨hHeld.1.keep hbx, hHeld.2.below hbx⟩
      clear hK K hbx
      try simp only [Act.put, List.setIfInBounds_toArray, List.set_cons_zero, List.set_cons_succ]
      refine Rg.takeL (i := 24) (v := ?_) rfl (by kernel_rfl) (by kernel_rfl) (by kernel_rfl) (fun _ _ _ h => h) (Or.inl ⟨by rfl, ?_⟩) (by assumption) ?_
      rotate_left
      · (intro wz hSw; (refine op_eq_bool rs ?_; exact ⟨_, _, rfl, rfl, rfl⟩))
      try simp only [Act.put, List.setIfInBounds_toArray, List.set_cons_zero, List.set_cons_succ]
      refine Rg.takeL (i := 25) (v := ?_) rfl (by kernel_rfl) (by kernel_rfl) (by kernel_rfl) (fun _ _ _ h => h) (Or.inl ⟨by rfl, ?_⟩) (by assumption) ?_
      rotate_left
      · (intro wz hSw; (try dsimp only at hSw); go_simp <;> with_reducible rfl)
      try simp only [Act.put, List.setIfInBounds_toArray, List.set_cons_zero, List.set_cons_succ]
      refine Rg.takeL (i := 26) (v := ?_) rfl (by kernel_rfl) (by kernel_rfl) (by kernel_rfl) (fun _ _ _ h => h) (Or.inl ⟨by rfl, ?_⟩) (by assumption) ?_
      rotate_left
      · (intro wz hSw; (try dsimp only at hSw); go_simp <;> with_reducible rfl)
      try simp only [Act.put, List.setIfInBounds_toArray, List.set_cons_zero, List.set_cons_succ]
      refine wpAnyH_done (by kernel_rfl) ?_ _
      refine NoPanic.normal ?_
      go_wp2
      go_ret
      exact ⟨rfl, hHeld.1.be⟩

theorem walk (A B : Nd) (a b : Option Addr) (n c m d : Nat) (s : ByteArray) (hl : A.ks.length = 16) (hl2 : B.ks.length = 16) (w : World) (ha : IsBs w a n c A.p) (hb : IsBs w b m d B.p) :
    Calls Try.prog 5 #[.agg (ndC A a n c), .agg (ndC B b m d), .string s] w fun e w' => e = .returned (.bool true) ∧ Below w.heap.size w w' := by
  cases hh : lightB A with
  | false => exact walk_heavyA A B a b n c m d s hl hl2 w ha hb hh
  | true =>
    cases hh2 : lightB B with
    | false => exact walk_heavyB A B a b n c m d s hl hl2 w ha hb hh hh2
    | true =>
      by_cases hs : 200 < s.size
      · exact walk_heavyS A B a b n c m d s hl hl2 w ha hb hh hh2 hs
      · exact walk_light A B a b n c m d s hl hl2 w ha hb hh hh2 (by omega)

set_option maxRecDepth 100000 in
theorem lifted (os : Os) (started : os.Started) (H : Type) (enc : TypeId × Value → H) :
    ReturnsInHanded {} Try.checked os 5 .any (Rows.nodePartsSpec.pre6 enc Try.prog Try.f5 Rows.nodePartsRow.domain false) (Rows.nodePartsSpec.post enc Try.prog Try.f5 false true false false) := by
  refine returnsInHanded_of_change (C := Try.checked) own started (by kernel_rfl) Try.func5
    (ChangeSpec.witness6 (enc := enc) (C := Try.checked) false ⟨#[], #[.agg #[.int .i64 0, .slice none 0 0, .string ByteArray.empty, .string ByteArray.empty, .string ByteArray.empty, .string ByteArray.empty, .string ByteArray.empty, .string ByteArray.empty, .string ByteArray.empty, .string ByteArray.empty, .string ByteArray.empty, .string ByteArray.empty, .string ByteArray.empty, .string ByteArray.empty, .string ByteArray.empty, .string ByteArray.empty, .string ByteArray.empty, .string ByteArray.empty, .string ByteArray.empty], .agg #[.int .i64 0, .slice none 0 0, .string ByteArray.empty, .string ByteArray.empty, .string ByteArray.empty, .string ByteArray.empty, .string ByteArray.empty, .string ByteArray.empty, .string ByteArray.empty, .string ByteArray.empty, .string ByteArray.empty, .string ByteArray.empty, .string ByteArray.empty, .string ByteArray.empty, .string ByteArray.empty, .string ByteArray.empty, .string ByteArray.empty, .string ByteArray.empty, .string ByteArray.empty], .string ByteArray.empty], []⟩ 8 (by kernel_rfl) (by kernel_rfl) (by kernel_rfl) (by kernel_rfl)) ?_
  intro W base args ds gs before hval0 hW _ _
  have hval : ∀ (j : Nat) t v, Try.f5.params[j]? = some t → args[j]? = some v → Value.okWide Try.prog W .any base t v := hval0
  have hW' := hW
  obtain ⟨p, q, hA0, hV, rfl, hfz, hnd⟩ := hW
  have hA : DataW.TrodAll enc Try.prog W 0 (fun _ => true) true Try.f5.params.toList args.toList ds p := hA0
  rw [Try.params5] at hA hval
  obtain ⟨v0, vs0, d0, ds0, p0, q0, hargs, rfl, rfl, h0, r0⟩ := trodAll_cons hA
  obtain ⟨v1, vs1, d1, ds1, p1, q1, rfl, rfl, rfl, h1, r1⟩ := trodAll_cons r0
  obtain ⟨v2, vs2, d2, ds2, p2, q2, rfl, rfl, rfl, h2, r2⟩ := trodAll_cons r1
  obtain ⟨rfl, rfl, rfl⟩ := trodAll_nil r2
  obtain rfl : args = #[v0, v1, v2] := by cases args; simp_all
  obtain ⟨rfl, rfl⟩ := trodVars_none hV
  have k0 := h0
  have lt0 : ∀ x ∈ p0, x.block < W.heap.size := by obtain ⟨m, hm⟩ := k0; exact DataW.trod_lt m _ _ _ hm
  obtain ⟨N0, b0, len0, cap0, rfl, hB0, hl0⟩ := node_of (hval 0 25 v0 rfl rfl) h0
  have k1 := h1
  have lt1 : ∀ x ∈ p1, x.block < W.heap.size := by obtain ⟨m, hm⟩ := k1; exact DataW.trod_lt m _ _ _ hm
  obtain ⟨N1, b1, len1, cap1, rfl, hB1, hl1⟩ := node_of (hval 1 25 v1 rfl rfl) h1
  have k2 := h2
  have lt2 : ∀ x ∈ p2, x.block < W.heap.size := by obtain ⟨m, hm⟩ := k2; exact DataW.trod_lt m _ _ _ hm
  obtain ⟨a2, rfl, hd2, hp2, w2⟩ := open_string Try.underlying9 (hval 2 9 v2 rfl rfl) h2
  clear hA0 hval0
  refine (walk N0 N1 b0 b1 len0 cap0 len1 cap1 a2 hl0 hl1 W hB0 hB1).mono fun e W' ⟨he, bel⟩ => ?_
  subst he
  exact ⟨_, rfl, _, _, _, [], _, [], hW', trodAll_mk1 (shut_bool Try.underlying4 _), (trodAll_cons_mk (Below.trod laidOut (by kernel_rfl) (of_decide_eq_true (by kernel_rfl)) k0 bel lt0) (trodAll_cons_mk (Below.trod laidOut (by kernel_rfl) (of_decide_eq_true (by kernel_rfl)) k1 bel lt1) (trodAll_cons_mk (Below.trod laidOut (by kernel_rfl) (of_decide_eq_true (by kernel_rfl)) k2 bel lt2) trodAll_mk0))), rfl, bel.frame _, fun h => by cases h⟩

theorem over : Rows.nodePartsRow.holds Try.pinned (OpenSpec.ofChange Rows.nodePartsSpec) :=
  OpenClaim.holds_of_wide 5 Try.f5 rfl rfl rfl rfl rfl rfl rfl ⟨rfl, rfl, rfl, rfl, rfl⟩ rfl rfl rfl rfl rfl (by kernel_rfl) Try.func5 (by kernel_rfl)
    (of_decide_eq_true (by kernel_rfl)) (by unfold Func.isWrapper; first | (rw [if_pos (by decide +kernel)]; kernel_rfl) | (rw [if_neg (by decide +kernel)]; exact ⟨rfl, rfl⟩))
    (fun os started H enc _ => lifted os started H enc)

theorem proved : Rows.NodePartsSaid := over

end Go.Proofs.Ytbdhncaiffepoaa.nodeParts
