/-
  Contracts of node.readPath, node.readBranch, node.read.
-/
import Derived.Test.YtoeblhdddehemaaDoorMg14
import Derived.Test.YtoeblhdddehemaaDoorMg10
namespace Go.Proofs.YtoeblhdddehemaaDoor
set_option maxRecDepth 20000
open Go.RowKit

namespace No
open Rl Ni
/-- what reading items hands back -/
def ReadPost (w : World) (r : Option Nd) (e : Ending) (w' : World) : Prop := ∃ (N : Nd) (a : Option Addr) (n c : Nat) (b : Bool), e = .returned (.tuple #[.agg (ndC N a n c), .bool b]) ∧ (b = true ∧ r = some N ∨ b = false ∧ r = none) ∧
  BsF w.heap.size w' a n c N.p ∧ N.ks.length = 16 ∧ Below w.heap.size w w'
/-- an item that was read out of not far too many bytes -/
def Good (x : It) : Prop := Fits 0 x ∧ x.size ≤ 4096 ∧ x.bytes.length ≤ 4294967296 ∧ x.s.size ≤ 1000000
theorem getD_at {xs : List It} {i : Nat} (h : i < xs.length) : xs[i]? = some (xs.getD i it0) := by simp [h]

set_option maxHeartbeats 4000000 in
theorem readPath_bad (xs : List It) (a : Option Addr) (n cap : Nat) (w : World) (h : IsIts w xs a n cap) (h2 : xs.length = 2) (hG : ∀ x ∈ xs, Good x) (hbad : (xs.getD 0 it0).s.size = 0 ∨ Bad (xs.getD 0 it0).s) :
    Calls Tryd.prog 77 #[.slice a n cap] w (ReadPost w (readP xs)) := by
  have hR : readP xs = none := by unfold readP readPathP; rw [if_pos h2, if_pos hbad]
  rw [hR]
  have hm := h.max
  have hnc := h.le
  have hl := h.len
  unfold maxLen at hm
  obtain ⟨y, b, off, A, N, C, hy, rfl, hblt, hL, hI⟩ := h.at' 0 (by omega)
  have hyx : xs.getD 0 it0 = y := Option.some.inj ((getD_at (xs := xs) (i := 0) (by omega)).symm.trans hy)
  obtain ⟨_, _, _, hs6⟩ := hG y (List.mem_of_getElem? hy)
  rw [hyx] at hbad
  have hcall : Hid (∃ c : Int, c ≠ 0 ∧ ∀ w : World, Calls Tryd.prog 96 #[.string y.s] w fun e w' => e = .returned (.tuple #[.slice none 0 0, .bool false, .int .i64 c]) ∧ Below w.heap.size w w') := Lib.hid (by
    by_cases h0 : y.s.size = 0
    · refine ⟨5, by decide, fun w => ?_⟩
      rw [size_zero h0]
      refine (unpack_nil w).mono ?_
      rintro e w' ⟨rfl, rfl⟩
      exact ⟨rfl, Below.refl _ _⟩
    · refine ⟨6, by decide, fun w => ?_⟩
      exact unpack_bad y.s (by omega) hs6 (hbad.resolve_left h0) w)
  obtain ⟨w2, hw2⟩ : ∃ w2, w2 = w.alloc (.cells (ndC nd0 none 0 0) 45) := ⟨_, rfl⟩
  have hO : OwnN w2 w.heap.size nd0 none 0 0 := by rw [hw2]; exact Rg.Own.new _ _ _
  have hB2 : Below w.heap.size w w2 := by rw [hw2]; exact al1 _ _
  obtain ⟨e0, e1, e2⟩ := hL.stays hB2 hblt
  rw [Nat.zero_mul, Nat.add_zero] at e0 e1 e2
  have HO := Lib.hid hO
  have HB2 := Lib.hid hB2
  obtain ⟨c, hc, hcl⟩ := hcall.out
  have hcb : (c != 0) = true := by simp; exact hc
  have HC := Lib.hid hcl
  clear h hL hI hO hB2 hbad hR hG hcall hcl hc hyx hy
  subst hw2
  go_enter Tryd.func77, Tryd.ntmps77
  go_wp2_with (refine Rg.run rfl _ _ (run_alloc_nd _ _ _ w.heap.size rfl rfl) ?_)
  refine (HC.out _).mono ?_
  rintro e w3 ⟨rfl, hb3⟩
  have HO3 := Lib.hid (HO.out.below hb3)
  have HB3 := Lib.hid (below_step' HB2.out hb3)
  clear hb3
  go_wp2_with (first
    | (refine Rg.run rfl _ _ (op_build built0 ?_) ?_; · exact ⟨_, rfl, rfl⟩)
    | (refine wpl_store_nd HO3.out rfl nd0 none 0 0 rfl rfl _ _ rfl rfl rfl rfl ?_))
  exact bodyPost_ret (res_nd1 rfl _ rfl (own_rowN HO3.out) rfl) rfl ⟨nd0, none, 0, 0, false, rfl, .inr ⟨rfl, rfl⟩, BsF.nil _ _, rfl, below_rowN HB3.out (Nat.le_refl _) _⟩

set_option maxHeartbeats 4000000 in
theorem readPath_ok (xs : List It) (a : Option Addr) (n cap : Nat) (w : World) (h : IsIts w xs a n cap) (h2 : xs.length = 2) (hG : ∀ x ∈ xs, Good x) (hbad : ¬ ((xs.getD 0 it0).s.size = 0 ∨ Bad (xs.getD 0 it0).s)) :
    Calls Tryd.prog 77 #[.slice a n cap] w (ReadPost w (readP xs)) := by
  have hR : readP xs = if leafB (xs.getD 0 it0).s then some ⟨1, pathL (xs.getD 0 it0).s, (xs.getD 1 it0).s, zks⟩ else (kidP (xs.getD 1 it0)).map fun k => ⟨2, pathL (xs.getD 0 it0).s, eB, one16 k⟩ := by unfold readP readPathP; rw [if_pos h2, if_neg hbad]
  rw [hR]
  have hm := h.max
  have hnc := h.le
  have hl := h.len
  unfold maxLen at hm
  have hn2 : n = 2 := by omega
  obtain ⟨y, b, off, A, N, C, hy, rfl, hblt, hL, hI⟩ := h.at' 0 (by omega)
  obtain ⟨z, b', off', A2, N2, C2, hz, e, hblt2, hL2, hI2⟩ := h.at' 1 (by omega)
  obtain ⟨rfl, rfl, _⟩ : b = b' ∧ off = off' ∧ True := by cases e; exact ⟨rfl, rfl, trivial⟩
  have hyx : xs.getD 0 it0 = y := Option.some.inj ((getD_at (xs := xs) (i := 0) (by omega)).symm.trans hy)
  have hzx : xs.getD 1 it0 = z := Option.some.inj ((getD_at (xs := xs) (i := 1) (by omega)).symm.trans hz)
  obtain ⟨hf1, hf2, hf3, _⟩ := hG z (List.mem_of_getElem? hz)
  rw [hyx] at hbad ⊢
  rw [hzx]
  have h0 : 0 < y.s.size := by omega
  have hB0 : ¬ Bad y.s := fun e => hbad (.inr e)
  have hple := path_le y.s hB0
  have HC := Lib.hid (fun w => unpack_ok y.s h0 hB0 w)
  obtain ⟨w2, hw2⟩ : ∃ w2, w2 = w.alloc (.cells (ndC nd0 none 0 0) 45) := ⟨_, rfl⟩
  have hO : OwnN w2 w.heap.size nd0 none 0 0 := by rw [hw2]; exact Rg.Own.new _ _ _
  have hB2 : Below w.heap.size w w2 := by rw [hw2]; exact al1 _ _
  obtain ⟨e0, e1, e2⟩ := hL.stays hB2 hblt
  rw [Nat.zero_mul, Nat.add_zero] at e0 e1 e2
  have HO := Lib.hid hO
  have HB2 := Lib.hid hB2
  have HI := Lib.hid h
  have HL2 := Lib.hid hL2
  have HZ := Lib.hid hz
  obtain ⟨P, hP⟩ : ∃ P, pathL y.s = P := ⟨_, rfl⟩
  obtain ⟨lf, hlf⟩ : ∃ lf, leafB y.s = lf := ⟨_, rfl⟩
  unfold Unp at HC
  rw [hP, hlf] at HC
  rw [hP] at hple
  rw [hP, hlf]
  clear h hL hI hO hB2 hbad hR hG hyx hy hzx hz hL2 hI2 hB0 hP hlf e
  subst hw2
  subst hn2
  cases lf with
  | true =>
    go_enter Tryd.func77, Tryd.ntmps77
    go_wp2_with (refine Rg.run rfl _ _ (run_alloc_nd _ _ _ w.heap.size rfl rfl) ?_)
    refine (HC.out _).mono ?_
    rintro e w3 ⟨a3, n3, c3, rfl, hx3, hb3⟩
    have HO3 := Lib.hid (HO.out.below hb3)
    have hB3 := below_step' HB2.out hb3
    have HB3 := Lib.hid hB3
    obtain ⟨f0, f1, f2⟩ := HL2.out.stays hB3 hblt2
    rw [Nat.one_mul] at f0 f1 f2
    have hn3 : n3 ≤ 1000000 := by rw [← hx3.len]; omega
    have HLf := Lib.hid (leaf_any a3 n3 c3 P hn3 z.s w3 hx3)
    have hz3 := HO3.out.1
    clear hb3 hB3 hx3 HC e0 e1 e2
    go_wp2_with fail
    refine HLf.out.mono ?_
    rintro e w4 ⟨a4, n4, c4, rfl, hx4, hl4, hb4⟩
    have HO4 := Lib.hid (HO3.out.below hb4)
    have HB4 := Lib.hid (below_step' HB3.out hb4)
    have HX4 := Lib.hid hx4
    clear hb4 hx4 HLf
    go_wp2_with (refine wpl_store_nd HO4.out rfl ⟨1, P, z.s, zks⟩ a4 n4 c4 rfl rfl _ _ rfl rfl rfl rfl ?_)
    exact bodyPost_ret (res_nd1 rfl _ rfl (own_rowN HO4.out) rfl) rfl ⟨⟨1, P, z.s, zks⟩, a4, n4, c4, true, rfl, .inl ⟨rfl, rfl⟩, (HX4.out.row hz3 _).weak (by omega), rfl, below_rowN HB4.out (Nat.le_refl _) _⟩
  | false =>
    go_enter Tryd.func77, Tryd.ntmps77
    go_wp2_with (refine Rg.run rfl _ _ (run_alloc_nd _ _ _ w.heap.size rfl rfl) ?_)
    refine (HC.out _).mono ?_
    rintro e w3 ⟨a3, n3, c3, rfl, hx3, hb3⟩
    have HO3 := Lib.hid (HO.out.below hb3)
    have HB3 := Lib.hid (below_step' HB2.out hb3)
    have hn3 : n3 ≤ 1000000 := by rw [← hx3.len]; omega
    have hz3 := HO3.out.1
    have HX3 := Lib.hid hx3
    clear hb3 hx3 HC e0 e1 e2
    go_wp2_with fail
    refine (ntell_any _ _ _ _).mono ?_
    rintro e w4 ⟨rfl, hw4⟩
    have hb4 : Below w3.heap.size w3 w4 := by rw [hw4]; exact al1 _ _
    have hc4 : w4.cell? ⟨w3.heap.size, 0, none⟩ = some (.slice (some ⟨b, off, none⟩) 2 cap) := by rw [hw4, World.cell?_alloc_mark]; rfl
    have HK := Lib.hid (ntell1_any w3.heap.size 1 xs (some ⟨b, off, none⟩) 2 cap z w4 hc4 (HI.out.stays (below_step' HB3.out hb4)) HZ.out hf1 hf2 hf3)
    have HO4 := Lib.hid (HO3.out.below hb4)
    have HB4 := Lib.hid (below_step' HB3.out hb4)
    have HX4 := Lib.hid (HX3.out.below hb4)
    have hz4 := hb4.size
    clear hw4 hb4 hc4
    go_wp2_with fail
    refine HK.out.mono ?_
    rintro e w5 ⟨s5, b5, rfl, hk5, hb5⟩
    have HO5 := Lib.hid (HO4.out.below hb5)
    have HB5 := Lib.hid (below_step' HB4.out hb5)
    have HE := Lib.hid (ext_any a3 n3 c3 P hn3 s5 w5 (HX4.out.below hb5))
    have HK5 := Lib.hid hk5
    have hz5 := hb5.size
    clear hb5 hk5 HK
    go_wp2_with fail
    refine HE.out.mono ?_
    rintro e w6 ⟨a6, n6, c6, rfl, hx6, hl6, hb6⟩
    have HO6 := Lib.hid (HO5.out.below hb6)
    have HB6 := Lib.hid (below_step' HB5.out hb6)
    have HX6 := Lib.hid hx6
    clear hb6 hx6 HE
    go_wp2_with (refine wpl_store_nd HO6.out rfl ⟨2, P, eB, one16 s5⟩ a6 n6 c6 (one16_length s5) rfl _ _ rfl rfl rfl rfl ?_)
    refine bodyPost_ret (res_nd1 rfl _ rfl (own_rowN HO6.out) (one16_length s5)) rfl ⟨⟨2, P, eB, one16 s5⟩, a6, n6, c6, b5, rfl, ?_, (HX6.out.row (by omega) _).weak (by omega), one16_length s5, below_rowN HB6.out (Nat.le_refl _) _⟩
    rcases HK5.out with ⟨h1, h2⟩ | ⟨h1, h2⟩
    · exact .inl ⟨h1, by rw [h2]; rfl⟩
    · exact .inr ⟨h1, by rw [h2]; rfl⟩
end No
end Go.Proofs.YtoeblhdddehemaaDoor

/-
  The contract of the plain answer's Read, of any bytes that are not far too many.
-/
namespace Go.Proofs.YtoeblhdddehemaaDoor
set_option maxRecDepth 100000
open Go.RowKit

namespace Rl
/-- an item's operations, by themselves -/
theorem op_load_it {ev : Operand → Value} {o : Oper} {w : World} {b : Nat} {x : It} {a : Option Addr} {n c : Nat} (h : Rg.Own w b (itC x a n c) 63) (ho : ∃ y, o.op = .load 63 y ∧ ev y = .pointer (some ⟨b, 0, none⟩)) :
    (execOp ev o).run Tryd.prog w = .ok (.value (.agg (itC x a n c))) w := by
  obtain ⟨y, ho, hx⟩ := ho
  have := run_load_item (lies_row h.2)
  unfold execOp
  simp only [ho, hx, Instr.loadAt, Instr.sureAddr, Sem.run_bind, Sem.run_pure, Result.andThen_ok, this]
  rfl
theorem wpl_store_it {ops : Array Oper} {rest : List Oper} {o : Oper} {act : Act} {w : World} {Q : Exit → Act → World → Prop} {b : Nat} {x : It} {a : Option Addr} {n c : Nat} (h : Rg.Own w b (itC x a n c) 63) (y : It) (a' : Option Addr) (n' c' : Nat)
    (hgd : o.guard = none) (p q : Operand) (ho : o.op = .store 63 p q) (hx : act.eval p = .pointer (some ⟨b, 0, none⟩)) (hy : act.eval q = .agg (itC y a' n' c')) (hd : o.dst = none)
    (hQ : wpList Tryd.prog ops Q rest act (w.setRow b (itC y a' n' c'))) : wpList Tryd.prog ops Q (o :: rest) act w :=
  wpList_store_rowTo hgd 63 p q ho hd b _ hx hy 63 _ h.2 (info_itC _ _ _ _) rfl (itC_one _ _ _ _) hQ
theorem res_item3 {fn : Func} {p u z y : Tmp} (hf : fn.results = #[.cell p 63, .tmp u, .tmp z, .tmp y]) (tmps : Array Value) {w : World} {b : Nat} {x : It} {A : Option Addr} {N C : Nat} (hp : tmps.getD p undef = .pointer (some ⟨b, 0, none⟩)) (h : Rg.Own w b (itC x A N C) 63) :
    (results fn tmps).run Tryd.prog w = .ok (.tuple #[itV x A N C, tmps.getD u undef, tmps.getD z undef, tmps.getD y undef]) w := by
  have hp' : tmps[p]?.getD undef = .pointer (some ⟨b, 0, none⟩) := by simpa using hp
  simp [results, hf, hp', asAddr, run_load_item (lies_row h.2)]
theorem own_rowI {w : World} {b : Nat} {cs cs' : Array Value} {T : TypeId} (h : Rg.Own w b cs T) : Rg.Own (w.setRow b cs') b cs' T := own_row_same h

/-- the first byte's word -/
theorem headE_of (c : UInt8) (t : List UInt8) (hc : 128 ≤ c.toNat) : headE (c :: t) =
    if c.toNat % 64 ≤ 55 then .ok (decide (192 ≤ c.toNat), 1, c.toNat % 64) else if t.length < c.toNat % 64 - 55 then .error 5 else
    if t.headD 0 = 0 ∨ valB (t.take (c.toNat % 64 - 55)) ≤ 55 then .error 6 else .ok (decide (192 ≤ c.toNat), 1 + (c.toNat % 64 - 55), valB (t.take (c.toNat % 64 - 55))) := by
  have h2 := c.toNat_lt
  have hM : c.toNat - (if 192 ≤ c.toNat then 192 else 128) = c.toNat % 64 := by split <;> omega
  dsimp only [headE]
  rw [hM, if_neg (by omega)]
theorem valB_app (l r : List UInt8) : valB (l ++ r) = valB l * 256 ^ r.length + valB r := by
  obtain ⟨N, hN⟩ : ∃ N, r.length = N := ⟨_, rfl⟩
  induction N generalizing r with
  | zero => rw [List.eq_nil_of_length_eq_zero hN]; simp [valB]
  | succ N ih =>
    have hne : r ≠ [] := by rintro rfl; cases hN
    obtain ⟨d, c, rfl⟩ : ∃ d c, r = d ++ [c] := ⟨r.dropLast, r.getLast hne, (List.dropLast_concat_getLast hne).symm⟩
    have hd : d.length = N := by simpa using hN
    rw [← List.append_assoc, valB_snoc, ih d hd, valB_snoc, List.length_append, List.length_singleton, Nat.pow_succ, ← Nat.mul_assoc, Nat.add_mul, Nat.add_assoc]
theorem valB_take (l : List UInt8) (j m : Nat) (h : j ≤ m) : valB (l.take j) ≤ valB (l.take m) := by
  have : l.take m = l.take j ++ (l.drop j).take (m - j) := by rw [← List.take_add, show j + (m - j) = m by omega]
  rw [this, valB_app]
  exact Nat.le_trans (Nat.le_mul_of_pos_right _ (Nat.pow_pos (by omega))) (Nat.le_add_right _ _)

/-- what the plain answer hands back -/
def RPost (w : World) : Except Int (It × Nat × Nat) → Ending → World → Prop
  | .error _ => fun e w' => ∃ c : Int, c ≠ 0 ∧ e = .returned (.tuple #[itV it0 none 0 0, .int .i64 0, .int .i64 0, .int .i64 c]) ∧ Below w.heap.size w w'
  | .ok (x, n, k') => fun e w' => ∃ (a : Option Addr) (nn cap : Nat) (nI lI : Int), e = .returned (.tuple #[itV x a nn cap, .int .i64 nI, .int .i64 lI, .int .i64 0]) ∧ nI = n ∧ lI + k' = 4096 ∧ ItsIn w.heap.size w' x.xs a nn cap ∧ Below w.heap.size w w'
def RC (s : ByteArray) : Prop := ∀ (d k : Nat) (dI lI : Int) (w : World), dI = d → d ≤ 65 → lI + k = 4096 → k ≤ 4096 → Calls Tryd.prog 43 #[.string s, .int .i64 dI, .int .i64 lI] w (RPost w (readL s.data.toList d k))
theorem post_err {w w' : World} {r : Except Int (It × Nat × Nat)} {e : Ending} (c : Int) (hr : ∃ c, r = .error c) (hc : c ≠ 0) (he : e = .returned (.tuple #[itV it0 none 0 0, .int .i64 0, .int .i64 0, .int .i64 c])) (hB : Below w.heap.size w w') : RPost w r e w' := by
  obtain ⟨c', rfl⟩ := hr
  exact ⟨c, hc, he, hB⟩
abbrev Zit : Obj := .cells #[.bool false, .string ⟨#[]⟩, .slice none 0 0] 63
/-- the world behind the first two blocks -/
theorem two_boxes (w : World) : Rg.Own ((w.alloc (.cells #[.bool false, .string ⟨#[]⟩, .slice none 0 0] 63)).alloc (.cells #[.bool false, .string ⟨#[]⟩, .slice none 0 0] 63)) (w.heap.size + 1) (itC it0 none 0 0) 63 ∧
    ∀ w2, w2 = ((w.alloc (.cells #[.bool false, .string ⟨#[]⟩, .slice none 0 0] 63)).alloc (.cells #[.bool false, .string ⟨#[]⟩, .slice none 0 0] 63)).setRow (w.heap.size + 1) (itC it0 none 0 0) →
      Rg.Own w2 w.heap.size (itC it0 none 0 0) 63 ∧ Rg.Own w2 (w.heap.size + 1) (itC it0 none 0 0) 63 ∧ Below w.heap.size w w2 ∧ w2.heap.size = w.heap.size + 2 := by
  have h1 : Rg.Own ((w.alloc Zit).alloc Zit) (w.heap.size + 1) (itC it0 none 0 0) 63 := by
    have h : Rg.Own ((w.alloc Zit).alloc Zit) (w.alloc Zit).heap.size (itC it0 none 0 0) 63 := Rg.Own.new (w.alloc Zit) (itC it0 none 0 0) 63
    have e : (w.alloc Zit).heap.size = w.heap.size + 1 := by simp
    rw [e] at h
    exact h
  have h0 : Rg.Own ((w.alloc Zit).alloc Zit) w.heap.size (itC it0 none 0 0) 63 := (Rg.Own.new w (itC it0 none 0 0) 63).below (al1 _ _)
  refine ⟨h1, fun w2 hw2 => ?_⟩
  subst hw2
  exact ⟨own_row h0 (by omega), own_row_same h1, below_row (al2 _ _ _) (by omega) _, by simp⟩
set_option maxHeartbeats 8000000 in
theorem rread_deep (s : ByteArray) (d k : Nat) (dI lI : Int) (w : World) (hdI : dI = d) (_hlI : lI + k = 4096) (_hk : k ≤ 4096) (h : 64 < d) : Calls Tryd.prog 43 #[.string s, .int .i64 dI, .int .i64 lI] w (RPost w (readL s.data.toList d k)) := by
  have HE : Hid (∃ c, readL s.data.toList d k = .error c) := Lib.hid (by
    rw [readL_eq, if_pos h]; exact ⟨_, rfl⟩)
  obtain ⟨r, hr⟩ : ∃ r, readL s.data.toList d k = r := ⟨_, rfl⟩
  rw [hr] at HE ⊢
  clear hr
  obtain ⟨h1, h2⟩ := two_boxes w
  obtain ⟨hR, hN, hB, hsz⟩ := h2 _ rfl
  have H1 := Lib.hid h1
  have HR := Lib.hid hR
  have HN := Lib.hid hN
  have HB := Lib.hid hB
  have HSz := Lib.hid hsz
  clear h1 h2 hR hN hB hsz
  go_enter Tryd.func43, Tryd.ntmps43
  go_wp2_with (first
    | (refine wpl_store_it H1.out it0 none 0 0 rfl _ _ rfl rfl rfl rfl ?_)
    | (refine wpl_store_it HR.out it0 none 0 0 rfl _ _ rfl rfl rfl rfl ?_)
    | (refine Rg.run rfl _ _ (op_load_it HN.out ?_) ?_; · exact ⟨_, rfl, rfl⟩))
  exact bodyPost_ret (res_item3 rfl _ rfl (own_rowI HR.out)) rfl (post_err 17 HE.out (by decide) rfl (below_row HB.out (Nat.le_refl _) _))
set_option maxHeartbeats 8000000 in
theorem rread_big (s : ByteArray) (d k : Nat) (dI lI : Int) (w : World) (hdI : dI = d) (hlI : lI + k = 4096) (_hk : k ≤ 4096) (h : d ≤ 64) (h2 : k = 4096) : Calls Tryd.prog 43 #[.string s, .int .i64 dI, .int .i64 lI] w (RPost w (readL s.data.toList d k)) := by
  have HE : Hid (∃ c, readL s.data.toList d k = .error c) := Lib.hid (by
    rw [readL_eq, if_neg (by omega), if_pos (by omega)]; exact ⟨_, rfl⟩)
  obtain ⟨r, hr⟩ : ∃ r, readL s.data.toList d k = r := ⟨_, rfl⟩
  rw [hr] at HE ⊢
  clear hr
  obtain ⟨h1, h2⟩ := two_boxes w
  obtain ⟨hR, hN, hB, hsz⟩ := h2 _ rfl
  have H1 := Lib.hid h1
  have HR := Lib.hid hR
  have HN := Lib.hid hN
  have HB := Lib.hid hB
  have HSz := Lib.hid hsz
  clear h1 h2 hR hN hB hsz
  go_enter Tryd.func43, Tryd.ntmps43
  go_wp2_with (first
    | (refine wpl_store_it H1.out it0 none 0 0 rfl _ _ rfl rfl rfl rfl ?_)
    | (refine wpl_store_it HR.out it0 none 0 0 rfl _ _ rfl rfl rfl rfl ?_)
    | (refine Rg.run rfl _ _ (op_load_it HN.out ?_) ?_; · exact ⟨_, rfl, rfl⟩))
  exact bodyPost_ret (res_item3 rfl _ rfl (own_rowI HR.out)) rfl (post_err 4 HE.out (by decide) rfl (below_row HB.out (Nat.le_refl _) _))
set_option maxHeartbeats 8000000 in
theorem rread_nil (s : ByteArray) (d k : Nat) (dI lI : Int) (w : World) (hdI : dI = d) (hlI : lI + k = 4096) (hk : k ≤ 4096) (h : d ≤ 64) (h2 : k < 4096) (h0 : s.size = 0) : Calls Tryd.prog 43 #[.string s, .int .i64 dI, .int .i64 lI] w (RPost w (readL s.data.toList d k)) := by
  have HE : Hid (∃ c, readL s.data.toList d k = .error c) := Lib.hid (by
    have hd : s.data.toList = [] := List.eq_nil_of_length_eq_zero (by rw [len_s]; exact h0)
    rw [readL_eq, if_neg (by omega), if_neg (by omega), hd]; exact ⟨_, rfl⟩)
  obtain ⟨r, hr⟩ : ∃ r, readL s.data.toList d k = r := ⟨_, rfl⟩
  rw [hr] at HE ⊢
  clear hr
  obtain rfl : s = ⟨#[]⟩ := by
    cases s with
    | mk dd => rw [show dd = #[] from Array.eq_empty_of_size_eq_zero h0]
  obtain ⟨h1, h2⟩ := two_boxes w
  obtain ⟨hR, hN, hB, hsz⟩ := h2 _ rfl
  have H1 := Lib.hid h1
  have HR := Lib.hid hR
  have HN := Lib.hid hN
  have HB := Lib.hid hB
  have HSz := Lib.hid hsz
  clear h1 h2 hR hN hB hsz
  go_enter Tryd.func43, Tryd.ntmps43
  go_wp2_with (first
    | (refine wpl_store_it H1.out it0 none 0 0 rfl _ _ rfl rfl rfl rfl ?_)
    | (refine wpl_store_it HR.out it0 none 0 0 rfl _ _ rfl rfl rfl rfl ?_)
    | (refine Rg.run rfl _ _ (op_load_it HN.out ?_) ?_; · exact ⟨_, rfl, rfl⟩))
  exact bodyPost_ret (res_item3 rfl _ rfl (own_rowI HR.out)) rfl (post_err 5 HE.out (by decide) rfl (below_row HB.out (Nat.le_refl _) _))
theorem cut_first {s : ByteArray} {c : UInt8} {t : List UInt8} (hs : s.data.toList = c :: t) : s.extract 0 1 = ⟨#[c]⟩ := by
  have := ext_bytes s 0 1
  rw [hs] at this
  rw [show (0 : Nat) + 1 = 1 from rfl] at this
  rw [this]
  rfl
set_option maxHeartbeats 8000000 in
theorem rread_self (s : ByteArray) (d k : Nat) (dI lI : Int) (w : World) (hdI : dI = d) (hlI : lI + k = 4096) (hk : k ≤ 4096) (h : d ≤ 64) (h2 : k < 4096) (c : UInt8) (t : List UInt8) (hs : s.data.toList = c :: t) (hc : c.toNat < 128) : Calls Tryd.prog 43 #[.string s, .int .i64 dI, .int .i64 lI] w (RPost w (readL s.data.toList d k)) := by
  have HE : Hid (readL s.data.toList d k = .ok (.mk false (s.extract 0 1) [], 1, k + 1)) := Lib.hid (by
    rw [readL_eq, if_neg (by omega), if_neg (by omega), hs]
    have hh : headE (c :: t) = .ok (false, 0, 1) := by dsimp only [headE]; rw [if_pos hc]
    rw [hh, cut_first hs]
    dsimp only
    rw [if_neg (by simp), if_neg (by simp), if_neg (by omega)]
    rfl)
  rw [HE.out]
  have hs0 : 0 < s.size := by rw [size_len, hs]; simp
  have hne := size_pos_ne hs0
  have hsl : t.length + 1 = s.size := by rw [size_len, hs]; rfl
  have hg0 := get_at s 0 hs0
  rw [hs, List.getD_cons_zero] at hg0
  have hcl := c.toNat_lt
  obtain ⟨C, hC⟩ : ∃ C, c.toNat = C := ⟨_, rfl⟩
  rw [hC] at hcl
  have hg1 : (s[0]'hs0).toNat = C := by rw [hg0, hC]
  rw [hC] at hc
  clear HE hg0
  obtain ⟨h1, h2⟩ := two_boxes w
  obtain ⟨hR, hN, hB, hsz⟩ := h2 _ rfl
  have H1 := Lib.hid h1
  have HR := Lib.hid hR
  have HN := Lib.hid hN
  have HB := Lib.hid hB
  have HSz := Lib.hid hsz
  clear h1 h2 hR hN hB hsz
  go_enter Tryd.func43, Tryd.ntmps43
  go_wp2_with (first
    | (refine wpl_store_it H1.out it0 none 0 0 rfl _ _ rfl rfl rfl rfl ?_)
    | (refine wpl_store_it HR.out it0 none 0 0 rfl _ _ rfl rfl rfl rfl ?_)
    | (refine Rg.run rfl _ _ (op_load_it HN.out ?_) ?_; · exact ⟨_, rfl, rfl⟩)
    | (refine wpl_store_it HR.out (.mk false (s.extract 0 1) []) none 0 0 rfl _ _ rfl rfl rfl rfl ?_))
  exact bodyPost_ret (res_item3 rfl _ rfl (own_rowI HR.out)) rfl ⟨none, 0, 0, _, _, rfl, rfl, by omega, ItsIn.nil _ _, below_row HB.out (Nat.le_refl _) _⟩
set_option maxHeartbeats 8000000 in
theorem rread_s_short (s : ByteArray) (d k : Nat) (dI lI : Int) (w : World) (hdI : dI = d) (hlI : lI + k = 4096) (hk : k ≤ 4096) (h : d ≤ 64) (h2 : k < 4096) (hmax : s.size ≤ 1000000) (c : UInt8) (t : List UInt8) (hs : s.data.toList = c :: t) (hc : 128 ≤ c.toNat) (h5 : c.toNat % 64 ≤ 55) (hlt : t.length < c.toNat % 64) : Calls Tryd.prog 43 #[.string s, .int .i64 dI, .int .i64 lI] w (RPost w (readL s.data.toList d k)) := by
  have HE : Hid (∃ c, readL s.data.toList d k = .error c) := Lib.hid (by
    rw [readL_eq, if_neg (by omega), if_neg (by omega), hs, headE_of c t hc, if_pos h5]
    dsimp only
    rw [if_pos (by rw [List.length_cons]; omega)]; exact ⟨_, rfl⟩)
  obtain ⟨r, hr⟩ : ∃ r, readL s.data.toList d k = r := ⟨_, rfl⟩
  rw [hr] at HE ⊢
  clear hr
  have hs0 : 0 < s.size := by rw [size_len, hs]; simp
  have hne := size_pos_ne hs0
  have hsl : t.length + 1 = s.size := by rw [size_len, hs]; rfl
  have hg0 := get_at s 0 hs0
  rw [hs, List.getD_cons_zero] at hg0
  have hcl := c.toNat_lt
  obtain ⟨C, hC⟩ : ∃ C, c.toNat = C := ⟨_, rfl⟩
  rw [hC] at hcl
  have hg1 : (s[0]'hs0).toNat = C := by rw [hg0, hC]
  rw [hC] at hc h5 hlt
  obtain ⟨n0, hn0⟩ : ∃ n0, C % 64 = n0 := ⟨_, rfl⟩
  have hrem : (C : Int).tmod 64 = (n0 : Int) := by rw [Int.tmod_eq_emod_of_nonneg (by omega)]; omega
  have h55 : n0 ≤ 55 := by omega
  rw [hn0] at hlt h5
  have hlt2 : s.size - 1 < n0 := by omega
  clear hg0 hs hC
  obtain ⟨h1, h2⟩ := two_boxes w
  obtain ⟨hR, hN, hB, hsz⟩ := h2 _ rfl
  have H1 := Lib.hid h1
  have HR := Lib.hid hR
  have HN := Lib.hid hN
  have HB := Lib.hid hB
  have HSz := Lib.hid hsz
  clear h1 h2 hR hN hB hsz
  go_enter Tryd.func43, Tryd.ntmps43
  go_wp2_with (first
    | (refine wpl_store_it H1.out it0 none 0 0 rfl _ _ rfl rfl rfl rfl ?_)
    | (refine wpl_store_it HR.out it0 none 0 0 rfl _ _ rfl rfl rfl rfl ?_)
    | (refine Rg.run rfl _ _ (op_load_it HN.out ?_) ?_; · exact ⟨_, rfl, rfl⟩))
  exact bodyPost_ret (res_item3 rfl _ rfl (own_rowI HR.out)) rfl (post_err 5 HE.out (by decide) rfl (below_row HB.out (Nat.le_refl _) _))
end Rl
end Go.Proofs.YtoeblhdddehemaaDoor
