/-
 The contract of the plain answer's Read, of any bytes that are not far too many.
-/
import Derived.Test.YtgolhnfkmmajpaaGreatDoorMc4
open Go.Lib (hid)
set_option linter.unusedSimpArgs false
set_option linter.unusedVariables false
set_option maxHeartbeats 40000000
set_option maxRecDepth 100000
namespace Go.Proofs.YtgolhnfkmmajpaaGreatDoor
section
open Go.RowKit
namespace Rl
theorem op_load_it {ev : Operand → Value} {o : Oper} {w : World} {b : Nat} {x : It} {a : Option Addr} {n c : Nat} (h : Rg.Own w b (itC x a n c) 101) (ho : ∃ y, o.op = .load 101 y ∧ ev y = .pointer (some ⟨b, 0, none⟩)) :
  (execOp ev o).run Tryz.prog w = .ok (.value (.agg (itC x a n c))) w := by
 obtain ⟨y, ho, hx⟩ := ho
 have := run_load_item (lies_row h.2)
 unfold execOp
 simp only [ho, hx, Instr.loadAt, Instr.sureAddr, Sem.run_bind, Sem.run_pure, Result.andThen_ok, this]
 rfl
theorem wpl_store_it {ops : Array Oper} {rest : List Oper} {o : Oper} {act : Act} {w : World} {Q : Exit → Act → World → Prop} {b : Nat} {x : It} {a : Option Addr} {n c : Nat} (h : Rg.Own w b (itC x a n c) 101) (y : It) (a' : Option Addr) (n' c' : Nat)
  (hgd : o.guard = none) (p q : Operand) (ho : o.op = .store 101 p q) (hx : act.eval p = .pointer (some ⟨b, 0, none⟩)) (hy : act.eval q = .agg (itC y a' n' c')) (hd : o.dst = none)
  (hQ : wpList Tryz.prog ops Q rest act (w.setRow b (itC y a' n' c'))) : wpList Tryz.prog ops Q (o :: rest) act w :=
 wpList_store_rowTo hgd 101 p q ho hd b _ hx hy 101 _ h.2 (info_itC _ _ _ _) rfl (itC_one _ _ _ _) hQ
theorem res_item3 {fn : Func} {p u z y : Tmp} (hf : fn.results = #[.cell p 101, .tmp u, .tmp z, .tmp y]) (tmps : Array Value) {w : World} {b : Nat} {x : It} {A : Option Addr} {N C : Nat} (hp : tmps.getD p undef = .pointer (some ⟨b, 0, none⟩)) (h : Rg.Own w b (itC x A N C) 101) :
  (results fn tmps).run Tryz.prog w = .ok (.tuple #[itV x A N C, tmps.getD u undef, tmps.getD z undef, tmps.getD y undef]) w := by
 have hp' : tmps[p]?.getD undef = .pointer (some ⟨b, 0, none⟩) := by simpa using hp
 simp [results, hf, hp', asAddr, run_load_item (lies_row h.2)]
theorem own_rowI {w : World} {b : Nat} {cs cs' : Array Value} {T : TypeId} (h : Rg.Own w b cs T) : Rg.Own (w.setRow b cs') b cs' T := own_row_same h
theorem headE_of (c : UInt8) (t : List UInt8) (hc : 128 ≤ c.toNat) : headE (c :: t) =
  if c.toNat % 64 ≤ 55 then .ok (decide (192 ≤ c.toNat), 1, c.toNat % 64) else if t.length < c.toNat % 64 - 55 then .error 5 else
  if t.headD 0 = 0 ∨ valB (t.take (c.toNat % 64 - 55)) ≤ 55 then .error 6 else .ok (decide (192 ≤ c.toNat), 1 + (c.toNat % 64 - 55), valB (t.take (c.toNat % 64 - 55))) := by
 have h2 := c.toNat_lt
 have hM : c.toNat - (if 192 ≤ c.toNat then 192 else 128) = c.toNat % 64 := by split <;> omega
 dsimp only [headE]
 rw [hM, if_neg (by omega)]
theorem valB_app (l r : List UInt8) : valB (l ++ r) = valB l * 256 ^ r.length + valB r := by
 obtain ⟨N, hN⟩ : ∃ N, r.length = N := ⟨_, rfl⟩
 induction N generalizing r with
 | zero => rw [List.eq_nil_of_length_eq_zero hN]; simp [valB]
 | succ N ih =>
  have hne : r ≠ [] := by rintro rfl; cases hN
  obtain ⟨d, c, rfl⟩ : ∃ d c, r = d ++ [c] := ⟨r.dropLast, r.getLast hne, (List.dropLast_concat_getLast hne).symm⟩
  have hd : d.length = N := by simpa using hN
  rw [← List.append_assoc, valB_snoc, ih d hd, valB_snoc, List.length_append, List.length_singleton, Nat.pow_succ, ← Nat.mul_assoc, Nat.add_mul, Nat.add_assoc]
theorem valB_take (l : List UInt8) (j m : Nat) (h : j ≤ m) : valB (l.take j) ≤ valB (l.take m) := by
 have : l.take m = l.take j ++ (l.drop j).take (m - j) := by rw [← List.take_add, show j + (m - j) = m by omega]
 rw [this, valB_app]
 exact Nat.le_trans (Nat.le_mul_of_pos_right _ (Nat.pow_pos (by omega))) (Nat.le_add_right _ _)
def RPost (w : World) : Except Int (It × Nat × Nat) → Ending → World → Prop
 | .error _ => fun e w' => ∃ c : Int, c ≠ 0 ∧ e = .returned (.tuple #[itV it0 none 0 0, .int .i64 0, .int .i64 0, .int .i64 c]) ∧ Below w.heap.size w w'
 | .ok (x, n, k') => fun e w' => ∃ (a : Option Addr) (nn cap : Nat) (nI lI : Int), e = .returned (.tuple #[itV x a nn cap, .int .i64 nI, .int .i64 lI, .int .i64 0]) ∧ nI = n ∧ lI + k' = 4096 ∧ ItsIn w.heap.size w' x.xs a nn cap ∧ Below w.heap.size w w'
def RC (s : ByteArray) : Prop := ∀ (d k : Nat) (dI lI : Int) (w : World), dI = d → d ≤ 65 → lI + k = 4096 → k ≤ 4096 → Calls Tryz.prog 49 #[.string s, .int .i64 dI, .int .i64 lI] w (RPost w (readL s.data.toList d k))
theorem post_err {w w' : World} {r : Except Int (It × Nat × Nat)} {e : Ending} (c : Int) (hr : ∃ c, r = .error c) (hc : c ≠ 0) (he : e = .returned (.tuple #[itV it0 none 0 0, .int .i64 0, .int .i64 0, .int .i64 c])) (hB : Below w.heap.size w w') : RPost w r e w' := by
 obtain ⟨c', rfl⟩ := hr
 exact ⟨c, hc, he, hB⟩
abbrev Zit : Obj := .cells #[.bool false, .string ⟨#[]⟩, .slice none 0 0] 101
theorem two_boxes (w : World) : Rg.Own ((w.alloc (.cells #[.bool false, .string ⟨#[]⟩, .slice none 0 0] 101)).alloc (.cells #[.bool false, .string ⟨#[]⟩, .slice none 0 0] 101)) (w.heap.size + 1) (itC it0 none 0 0) 101 ∧
  ∀ w2, w2 = ((w.alloc (.cells #[.bool false, .string ⟨#[]⟩, .slice none 0 0] 101)).alloc (.cells #[.bool false, .string ⟨#[]⟩, .slice none 0 0] 101)).setRow (w.heap.size + 1) (itC it0 none 0 0) →
   Rg.Own w2 w.heap.size (itC it0 none 0 0) 101 ∧ Rg.Own w2 (w.heap.size + 1) (itC it0 none 0 0) 101 ∧ Below w.heap.size w w2 ∧ w2.heap.size = w.heap.size + 2 := by
 have h1 : Rg.Own ((w.alloc Zit).alloc Zit) (w.heap.size + 1) (itC it0 none 0 0) 101 := by
  have h : Rg.Own ((w.alloc Zit).alloc Zit) (w.alloc Zit).heap.size (itC it0 none 0 0) 101 := Rg.Own.new (w.alloc Zit) (itC it0 none 0 0) 101
  have e : (w.alloc Zit).heap.size = w.heap.size + 1 := by simp
  rw [e] at h
  exact h
 have h0 : Rg.Own ((w.alloc Zit).alloc Zit) w.heap.size (itC it0 none 0 0) 101 := (Rg.Own.new w (itC it0 none 0 0) 101).below (al1 _ _)
 refine ⟨h1, fun w2 hw2 => ?_⟩
 subst hw2
 exact ⟨own_row h0 (by omega), own_row_same h1, below_row (al2 _ _ _) (by omega) _, by simp⟩
theorem rread_deep (s : ByteArray) (d k : Nat) (dI lI : Int) (w : World) (hdI : dI = d) (_hlI : lI + k = 4096) (_hk : k ≤ 4096) (h : 64 < d) : Calls Tryz.prog 49 #[.string s, .int .i64 dI, .int .i64 lI] w (RPost w (readL s.data.toList d k)) := by
 have HE : Hid (∃ c, readL s.data.toList d k = .error c) := hid (by
  rw [readL_eq, if_pos h]; exact ⟨_, rfl⟩)
 obtain ⟨r, hr⟩ : ∃ r, readL s.data.toList d k = r := ⟨_, rfl⟩
 rw [hr] at HE ⊢
 clear hr
 obtain ⟨h1, h2⟩ := two_boxes w
 obtain ⟨hR, hN, hB, hsz⟩ := h2 _ rfl
 have H1 := hid h1
 have HR := hid hR
 have HN := hid hN
 have HB := hid hB
 have HSz := hid hsz
 clear h1 h2 hR hN hB hsz
 go_enter Tryz.func49, Tryz.ntmps49
 go_wp2_with (first
  | (refine wpl_store_it H1.out it0 none 0 0 rfl _ _ rfl rfl rfl rfl ?_)
  | (refine wpl_store_it HR.out it0 none 0 0 rfl _ _ rfl rfl rfl rfl ?_)
  | (refine Rg.run rfl _ _ (op_load_it HN.out ?_) ?_; · exact ⟨_, rfl, rfl⟩))
 exact bodyPost_ret (res_item3 rfl _ rfl (own_rowI HR.out)) rfl (post_err 17 HE.out (by decide) rfl (below_row HB.out (Nat.le_refl _) _))
theorem rread_big (s : ByteArray) (d k : Nat) (dI lI : Int) (w : World) (hdI : dI = d) (hlI : lI + k = 4096) (_hk : k ≤ 4096) (h : d ≤ 64) (h2 : k = 4096) : Calls Tryz.prog 49 #[.string s, .int .i64 dI, .int .i64 lI] w (RPost w (readL s.data.toList d k)) := by
 have HE : Hid (∃ c, readL s.data.toList d k = .error c) := hid (by
  rw [readL_eq, if_neg (by omega), if_pos (by omega)]; exact ⟨_, rfl⟩)
 obtain ⟨r, hr⟩ : ∃ r, readL s.data.toList d k = r := ⟨_, rfl⟩
 rw [hr] at HE ⊢
 clear hr
 obtain ⟨h1, h2⟩ := two_boxes w
 obtain ⟨hR, hN, hB, hsz⟩ := h2 _ rfl
 have H1 := hid h1
 have HR := hid hR
 have HN := hid hN
 have HB := hid hB
 have HSz := hid hsz
 clear h1 h2 hR hN hB hsz
 go_enter Tryz.func49, Tryz.ntmps49
 go_wp2_with (first
  | (refine wpl_store_it H1.out it0 none 0 0 rfl _ _ rfl rfl rfl rfl ?_)
  | (refine wpl_store_it HR.out it0 none 0 0 rfl _ _ rfl rfl rfl rfl ?_)
  | (refine Rg.run rfl _ _ (op_load_it HN.out ?_) ?_; · exact ⟨_, rfl, rfl⟩))
 exact bodyPost_ret (res_item3 rfl _ rfl (own_rowI HR.out)) rfl (post_err 4 HE.out (by decide) rfl (below_row HB.out (Nat.le_refl _) _))
theorem rread_nil (s : ByteArray) (d k : Nat) (dI lI : Int) (w : World) (hdI : dI = d) (hlI : lI + k = 4096) (hk : k ≤ 4096) (h : d ≤ 64) (h2 : k < 4096) (h0 : s.size = 0) : Calls Tryz.prog 49 #[.string s, .int .i64 dI, .int .i64 lI] w (RPost w (readL s.data.toList d k)) := by
 have HE : Hid (∃ c, readL s.data.toList d k = .error c) := hid (by
  have hd : s.data.toList = [] := List.eq_nil_of_length_eq_zero (by rw [len_s]; exact h0)
  rw [readL_eq, if_neg (by omega), if_neg (by omega), hd]; exact ⟨_, rfl⟩)
 obtain ⟨r, hr⟩ : ∃ r, readL s.data.toList d k = r := ⟨_, rfl⟩
 rw [hr] at HE ⊢
 clear hr
 obtain rfl : s = ⟨#[]⟩ := by
  cases s with
  | mk dd => rw [show dd = #[] from Array.eq_empty_of_size_eq_zero h0]
 obtain ⟨h1, h2⟩ := two_boxes w
 obtain ⟨hR, hN, hB, hsz⟩ := h2 _ rfl
 have H1 := hid h1
 have HR := hid hR
 have HN := hid hN
 have HB := hid hB
 have HSz := hid hsz
 clear h1 h2 hR hN hB hsz
 go_enter Tryz.func49, Tryz.ntmps49
 go_wp2_with (first
  | (refine wpl_store_it H1.out it0 none 0 0 rfl _ _ rfl rfl rfl rfl ?_)
  | (refine wpl_store_it HR.out it0 none 0 0 rfl _ _ rfl rfl rfl rfl ?_)
  | (refine Rg.run rfl _ _ (op_load_it HN.out ?_) ?_; · exact ⟨_, rfl, rfl⟩))
 exact bodyPost_ret (res_item3 rfl _ rfl (own_rowI HR.out)) rfl (post_err 5 HE.out (by decide) rfl (below_row HB.out (Nat.le_refl _) _))
theorem cut_first {s : ByteArray} {c : UInt8} {t : List UInt8} (hs : s.data.toList = c :: t) : s.extract 0 1 = ⟨#[c]⟩ := by
 have := ext_bytes s 0 1
 rw [hs] at this
 rw [show (0 : Nat) + 1 = 1 from rfl] at this
 rw [this]
 rfl
theorem rread_self (s : ByteArray) (d k : Nat) (dI lI : Int) (w : World) (hdI : dI = d) (hlI : lI + k = 4096) (hk : k ≤ 4096) (h : d ≤ 64) (h2 : k < 4096) (c : UInt8) (t : List UInt8) (hs : s.data.toList = c :: t) (hc : c.toNat < 128) : Calls Tryz.prog 49 #[.string s, .int .i64 dI, .int .i64 lI] w (RPost w (readL s.data.toList d k)) := by
 have HE : Hid (readL s.data.toList d k = .ok (.mk false (s.extract 0 1) [], 1, k + 1)) := hid (by
  rw [readL_eq, if_neg (by omega), if_neg (by omega), hs]
  have hh : headE (c :: t) = .ok (false, 0, 1) := by dsimp only [headE]; rw [if_pos hc]
  rw [hh, cut_first hs]
  dsimp only
  rw [if_neg (by simp), if_neg (by simp), if_neg (by omega)]
  rfl)
 rw [HE.out]
 have hs0 : 0 < s.size := by rw [size_len, hs]; simp
 have hne := size_pos_ne hs0
 have hsl : t.length + 1 = s.size := by rw [size_len, hs]; rfl
 have hg0 := get_at s 0 hs0
 rw [hs, List.getD_cons_zero] at hg0
 have hcl := c.toNat_lt
 obtain ⟨C, hC⟩ : ∃ C, c.toNat = C := ⟨_, rfl⟩
 rw [hC] at hcl
 have hg1 : (s[0]'hs0).toNat = C := by rw [hg0, hC]
 rw [hC] at hc
 clear HE hg0
 obtain ⟨h1, h2⟩ := two_boxes w
 obtain ⟨hR, hN, hB, hsz⟩ := h2 _ rfl
 have H1 := hid h1
 have HR := hid hR
 have HN := hid hN
 have HB := hid hB
 have HSz := hid hsz
 clear h1 h2 hR hN hB hsz
 go_enter Tryz.func49, Tryz.ntmps49
 go_wp2_with (first
  | (refine wpl_store_it H1.out it0 none 0 0 rfl _ _ rfl rfl rfl rfl ?_)
  | (refine wpl_store_it HR.out it0 none 0 0 rfl _ _ rfl rfl rfl rfl ?_)
  | (refine Rg.run rfl _ _ (op_load_it HN.out ?_) ?_; · exact ⟨_, rfl, rfl⟩)
  | (refine wpl_store_it HR.out (.mk false (s.extract 0 1) []) none 0 0 rfl _ _ rfl rfl rfl rfl ?_))
 exact bodyPost_ret (res_item3 rfl _ rfl (own_rowI HR.out)) rfl ⟨none, 0, 0, _, _, rfl, rfl, by omega, ItsIn.nil _ _, below_row HB.out (Nat.le_refl _) _⟩
theorem rread_s_short (s : ByteArray) (d k : Nat) (dI lI : Int) (w : World) (hdI : dI = d) (hlI : lI + k = 4096) (hk : k ≤ 4096) (h : d ≤ 64) (h2 : k < 4096) (hmax : s.size ≤ 1000000) (c : UInt8) (t : List UInt8) (hs : s.data.toList = c :: t) (hc : 128 ≤ c.toNat) (h5 : c.toNat % 64 ≤ 55) (hlt : t.length < c.toNat % 64) : Calls Tryz.prog 49 #[.string s, .int .i64 dI, .int .i64 lI] w (RPost w (readL s.data.toList d k)) := by
 have HE : Hid (∃ c, readL s.data.toList d k = .error c) := hid (by
  rw [readL_eq, if_neg (by omega), if_neg (by omega), hs, headE_of c t hc, if_pos h5]
  dsimp only
  rw [if_pos (by rw [List.length_cons]; omega)]; exact ⟨_, rfl⟩)
 obtain ⟨r, hr⟩ : ∃ r, readL s.data.toList d k = r := ⟨_, rfl⟩
 rw [hr] at HE ⊢
 clear hr
 have hs0 : 0 < s.size := by rw [size_len, hs]; simp
 have hne := size_pos_ne hs0
 have hsl : t.length + 1 = s.size := by rw [size_len, hs]; rfl
 have hg0 := get_at s 0 hs0
 rw [hs, List.getD_cons_zero] at hg0
 have hcl := c.toNat_lt
 obtain ⟨C, hC⟩ : ∃ C, c.toNat = C := ⟨_, rfl⟩
 rw [hC] at hcl
 have hg1 : (s[0]'hs0).toNat = C := by rw [hg0, hC]
 rw [hC] at hc h5 hlt
 obtain ⟨n0, hn0⟩ : ∃ n0, C % 64 = n0 := ⟨_, rfl⟩
 have hrem : (C : Int).tmod 64 = (n0 : Int) := by rw [Int.tmod_eq_emod_of_nonneg (by omega)]; omega
 have h55 : n0 ≤ 55 := by omega
 rw [hn0] at hlt h5
 have hlt2 : s.size - 1 < n0 := by omega
 clear hg0 hs hC
 obtain ⟨h1, h2⟩ := two_boxes w
 obtain ⟨hR, hN, hB, hsz⟩ := h2 _ rfl
 have H1 := hid h1
 have HR := hid hR
 have HN := hid hN
 have HB := hid hB
 have HSz := hid hsz
 clear h1 h2 hR hN hB hsz
 go_enter Tryz.func49, Tryz.ntmps49
 go_wp2_with (first
  | (refine wpl_store_it H1.out it0 none 0 0 rfl _ _ rfl rfl rfl rfl ?_)
  | (refine wpl_store_it HR.out it0 none 0 0 rfl _ _ rfl rfl rfl rfl ?_)
  | (refine Rg.run rfl _ _ (op_load_it HN.out ?_) ?_; · exact ⟨_, rfl, rfl⟩))
 exact bodyPost_ret (res_item3 rfl _ rfl (own_rowI HR.out)) rfl (post_err 5 HE.out (by decide) rfl (below_row HB.out (Nat.le_refl _) _))
end Rl
end
section
open Go.RowKit
namespace Rl
theorem rread_s_text (s : ByteArray) (d k : Nat) (dI lI : Int) (w : World) (hdI : dI = d) (hlI : lI + k = 4096) (hk : k ≤ 4096) (h : d ≤ 64) (h2 : k < 4096) (hmax : s.size ≤ 1000000) (c : UInt8) (t : List UInt8) (hs : s.data.toList = c :: t) (hc : 128 ≤ c.toNat) (hL : c.toNat < 192) (h5 : c.toNat % 64 ≤ 55) (hlt : c.toNat % 64 ≤ t.length) (h1 : c.toNat % 64 ≠ 1) : Calls Tryz.prog 49 #[.string s, .int .i64 dI, .int .i64 lI] w (RPost w (readL s.data.toList d k)) := by
 have HE : Hid (readL s.data.toList d k = .ok (.mk false (s.extract 1 (1 + c.toNat % 64)) [], 1 + c.toNat % 64, k + 1)) := hid (by
  rw [readL_eq, if_neg (by omega), if_neg (by omega), hs, headE_of c t hc, if_pos h5]
  dsimp only
  rw [if_neg (by rw [List.length_cons]; omega), if_neg (by simp; omega), if_neg (by omega), ext_bytes, hs])
 rw [HE.out]
 have hs0 : 0 < s.size := by rw [size_len, hs]; simp
 have hne := size_pos_ne hs0
 have hsl : t.length + 1 = s.size := by rw [size_len, hs]; rfl
 have hg0 := get_at s 0 hs0
 rw [hs, List.getD_cons_zero] at hg0
 have hcl := c.toNat_lt
 obtain ⟨C, hC⟩ : ∃ C, c.toNat = C := ⟨_, rfl⟩
 rw [hC] at hcl
 have hg1 : (s[0]'hs0).toNat = C := by rw [hg0, hC]
 rw [hC] at hc h5 hlt hL h1 ⊢
 obtain ⟨n0, hn0⟩ : ∃ n0, C % 64 = n0 := ⟨_, rfl⟩
 have hrem : (C : Int).tmod 64 = (n0 : Int) := by rw [Int.tmod_eq_emod_of_nonneg (by omega)]; omega
 have h55 : n0 ≤ 55 := by omega
 rw [hn0] at hlt h5 h1 ⊢
 have hq : ((n0 : Int) == 1) = false := by simp; omega
 have hLb : decide (192 ≤ (C : Int)) = false := by simp; omega
 have hlt2 : n0 ≤ s.size - 1 := by omega
 clear hg0 hs hC HE
 obtain ⟨h1, h2⟩ := two_boxes w
 obtain ⟨hR, hN, hB, hsz⟩ := h2 _ rfl
 have H1 := hid h1
 have HR := hid hR
 have HN := hid hN
 have HB := hid hB
 have HSz := hid hsz
 clear h1 h2 hR hN hB hsz
 go_enter Tryz.func49, Tryz.ntmps49
 go_wp2_with (first
  | (refine wpl_store_it H1.out it0 none 0 0 rfl _ _ rfl rfl rfl rfl ?_)
  | (refine wpl_store_it HR.out it0 none 0 0 rfl _ _ rfl rfl rfl rfl ?_)
  | (refine Rg.run rfl _ _ (op_load_it HN.out ?_) ?_; · exact ⟨_, rfl, rfl⟩)
  | (refine wpl_store_it HR.out (.mk false (s.extract 1 (1 + n0)) []) none 0 0 rfl _ _ rfl rfl rfl rfl ?_))
 exact bodyPost_ret (res_item3 rfl _ rfl (own_rowI HR.out)) rfl ⟨none, 0, 0, _, _, rfl, by omega, by omega, ItsIn.nil _ _, below_row HB.out (Nat.le_refl _) _⟩
theorem rread_s_text1 (s : ByteArray) (d k : Nat) (dI lI : Int) (w : World) (hdI : dI = d) (hlI : lI + k = 4096) (hk : k ≤ 4096) (h : d ≤ 64) (h2 : k < 4096) (hmax : s.size ≤ 1000000) (c : UInt8) (t : List UInt8) (hs : s.data.toList = c :: t) (hc : 128 ≤ c.toNat) (hL : c.toNat < 192) (h1 : c.toNat % 64 = 1) (hlt : 1 ≤ t.length) (hF : ¬ (t.headD 0).toNat < 128) : Calls Tryz.prog 49 #[.string s, .int .i64 dI, .int .i64 lI] w (RPost w (readL s.data.toList d k)) := by
 have HE : Hid (readL s.data.toList d k = .ok (.mk false (s.extract 1 2) [], 2, k + 1)) := hid (by
  rw [readL_eq, if_neg (by omega), if_neg (by omega), hs, headE_of c t hc, if_pos (by omega)]
  dsimp only
  rw [if_neg (by rw [List.length_cons]; omega), if_neg (by simp; omega), if_neg (by
   rintro ⟨_, _, e⟩
   exact hF e), h1, show (2 : Nat) = 1 + 1 from rfl, ext_bytes, hs])
 rw [HE.out]
 have hs0 : 0 < s.size := by rw [size_len, hs]; simp
 have hne := size_pos_ne hs0
 have hsl : t.length + 1 = s.size := by rw [size_len, hs]; rfl
 have hg0 := get_at s 0 hs0
 rw [hs, List.getD_cons_zero] at hg0
 have hcl := c.toNat_lt
 obtain ⟨C, hC⟩ : ∃ C, c.toNat = C := ⟨_, rfl⟩
 rw [hC] at hcl
 have hg1 : (s[0]'hs0).toNat = C := by rw [hg0, hC]
 rw [hC] at hc hL h1
 have hrem : (C : Int).tmod 64 = 1 := by rw [Int.tmod_eq_emod_of_nonneg (by omega)]; omega
 obtain ⟨X, hX⟩ : ∃ X, s.extract 1 2 = X := ⟨_, rfl⟩
 have hXd : X.data.toList = t.take 1 := by
  have := ext_bytes s 1 1
  rw [show (1 : Nat) + 1 = 2 from rfl, hX, hs] at this
  rw [this]
  rfl
 have hx0 : 0 < X.size := by rw [size_len, hXd, List.length_take]; omega
 have hxf : (X[0]'hx0) = t.headD 0 := by
  rw [get_at X 0 hx0, hXd]
  cases t with
  | nil => rfl
  | cons y ys => rfl
 rw [← hxf] at hF
 have hxne := size_pos_ne hx0
 have hLb : decide (192 ≤ (C : Int)) = false := by simp; omega
 have hlt2 : 1 ≤ s.size - 1 := by omega
 have HXX := hid hX
 clear hg0 hs hC HE hXd hxf
 obtain ⟨h1, h2⟩ := two_boxes w
 obtain ⟨hR, hN, hB, hsz⟩ := h2 _ rfl
 have H1 := hid h1
 have HR := hid hR
 have HN := hid hN
 have HB := hid hB
 have HSz := hid hsz
 clear h1 h2 hR hN hB hsz
 go_enter Tryz.func49, Tryz.ntmps49
 go_wp2_with (first
  | (refine wpl_store_it H1.out it0 none 0 0 rfl _ _ rfl rfl rfl rfl ?_)
  | (refine wpl_store_it HR.out it0 none 0 0 rfl _ _ rfl rfl rfl rfl ?_)
  | (refine Rg.run rfl _ _ (op_load_it HN.out ?_) ?_; · exact ⟨_, rfl, rfl⟩)
  | (refine wpl_store_it HR.out (.mk false X []) none 0 0 rfl _ _ rfl rfl rfl rfl ?_))
 exact bodyPost_ret (res_item3 rfl _ rfl (own_rowI HR.out)) rfl (by
  rw [HXX.out]
  exact ⟨none, 0, 0, _, _, rfl, by omega, by omega, ItsIn.nil _ _, below_row HB.out (Nat.le_refl _) _⟩)
theorem rread_s_bad (s : ByteArray) (d k : Nat) (dI lI : Int) (w : World) (hdI : dI = d) (hlI : lI + k = 4096) (hk : k ≤ 4096) (h : d ≤ 64) (h2 : k < 4096) (hmax : s.size ≤ 1000000) (c : UInt8) (t : List UInt8) (hs : s.data.toList = c :: t) (hc : 128 ≤ c.toNat) (hL : c.toNat < 192) (h1 : c.toNat % 64 = 1) (hlt : 1 ≤ t.length) (hF : (t.headD 0).toNat < 128) : Calls Tryz.prog 49 #[.string s, .int .i64 dI, .int .i64 lI] w (RPost w (readL s.data.toList d k)) := by
 have HE : Hid (∃ c, readL s.data.toList d k = .error c) := hid (by
  rw [readL_eq, if_neg (by omega), if_neg (by omega), hs, headE_of c t hc, if_pos (by omega)]
  dsimp only
  rw [if_neg (by rw [List.length_cons]; omega), if_neg (by simp; omega), if_pos ⟨rfl, h1, hF⟩]
  exact ⟨_, rfl⟩)
 obtain ⟨r, hr⟩ : ∃ r, readL s.data.toList d k = r := ⟨_, rfl⟩
 rw [hr] at HE ⊢
 clear hr
 have hs0 : 0 < s.size := by rw [size_len, hs]; simp
 have hne := size_pos_ne hs0
 have hsl : t.length + 1 = s.size := by rw [size_len, hs]; rfl
 have hg0 := get_at s 0 hs0
 rw [hs, List.getD_cons_zero] at hg0
 have hcl := c.toNat_lt
 obtain ⟨C, hC⟩ : ∃ C, c.toNat = C := ⟨_, rfl⟩
 rw [hC] at hcl
 have hg1 : (s[0]'hs0).toNat = C := by rw [hg0, hC]
 rw [hC] at hc hL h1
 have hrem : (C : Int).tmod 64 = 1 := by rw [Int.tmod_eq_emod_of_nonneg (by omega)]; omega
 obtain ⟨X, hX⟩ : ∃ X, s.extract 1 2 = X := ⟨_, rfl⟩
 have hXd : X.data.toList = t.take 1 := by
  have := ext_bytes s 1 1
  rw [show (1 : Nat) + 1 = 2 from rfl, hX, hs] at this
  rw [this]
  rfl
 have hx0 : 0 < X.size := by rw [size_len, hXd, List.length_take]; omega
 have hxf : (X[0]'hx0) = t.headD 0 := by
  rw [get_at X 0 hx0, hXd]
  cases t with
  | nil => rfl
  | cons y ys => rfl
 rw [← hxf] at hF
 have hxne := size_pos_ne hx0
 have hLb : decide (192 ≤ (C : Int)) = false := by simp; omega
 have hlt2 : 1 ≤ s.size - 1 := by omega
 clear hg0 hs hC hXd hxf
 obtain ⟨h1, h2⟩ := two_boxes w
 obtain ⟨hR, hN, hB, hsz⟩ := h2 _ rfl
 have H1 := hid h1
 have HR := hid hR
 have HN := hid hN
 have HB := hid hB
 have HSz := hid hsz
 clear h1 h2 hR hN hB hsz
 go_enter Tryz.func49, Tryz.ntmps49
 go_wp2_with (first
  | (refine wpl_store_it H1.out it0 none 0 0 rfl _ _ rfl rfl rfl rfl ?_)
  | (refine wpl_store_it HR.out it0 none 0 0 rfl _ _ rfl rfl rfl rfl ?_)
  | (refine Rg.run rfl _ _ (op_load_it HN.out ?_) ?_; · exact ⟨_, rfl, rfl⟩))
 exact bodyPost_ret (res_item3 rfl _ rfl (own_rowI HR.out)) rfl (post_err 6 HE.out (by decide) rfl (below_row HB.out (Nat.le_refl _) _))
end Rl
end
end Go.Proofs.YtgolhnfkmmajpaaGreatDoor
