/-
  The plain answer's Read: lists.
-/
import Derived.Test.YtbdhncaiffepoaaMg5
namespace Go.Proofs.Ytbdhncaiffepoaa
set_option maxRecDepth 100000
open Go.RowKit

namespace Rl
theorem three_boxes (w w2 : World) (hR : Rg.Own w2 w.heap.size (itC it0 none 0 0) 48) (hN : Rg.Own w2 (w.heap.size + 1) (itC it0 none 0 0) 48) (hB : Below w.heap.size w w2) (hsz : w2.heap.size = w.heap.size + 2) :
    Rg.Own (w2.alloc (.cells #[.bool false, .string ⟨#[]⟩, .slice none 0 0] 48)) (w.heap.size + 2) (itC it0 none 0 0) 48 ∧
    ∀ w4, w4 = (w2.alloc (.cells #[.bool false, .string ⟨#[]⟩, .slice none 0 0] 48)).setRow (w.heap.size + 2) (itC (.mk true ⟨#[]⟩ []) none 0 0) →
      Rg.Own w4 w.heap.size (itC it0 none 0 0) 48 ∧ Rg.Own w4 (w.heap.size + 1) (itC it0 none 0 0) 48 ∧ Rg.Own w4 (w.heap.size + 2) (itC (.mk true ⟨#[]⟩ []) none 0 0) 48 ∧ Below w.heap.size w w4 ∧ w4.heap.size = w.heap.size + 3 := by
  have h3 : Rg.Own (w2.alloc Zit) (w.heap.size + 2) (itC it0 none 0 0) 48 := by
    have h : Rg.Own (w2.alloc Zit) w2.heap.size (itC it0 none 0 0) 48 := Rg.Own.new w2 (itC it0 none 0 0) 48
    rw [hsz] at h
    exact h
  refine ⟨h3, fun w4 hw4 => ?_⟩
  subst hw4
  exact ⟨own_row (hR.below (al1 _ _)) (by omega), own_row (hN.below (al1 _ _)) (by omega), own_row_same h3, below_row (hB.alloc (by omega) _) (by omega) _, by simp [hsz]⟩
/-- what a list tells, of what its bytes tell -/
def listE (n : Nat) : Except Int (List It × Nat) → Except Int (It × Nat × Nat)
  | .error e => .error e
  | .ok (xs, k') => .ok (.mk true ⟨#[]⟩ xs, n, k')
/-- one cell of a block of the call's own is turned -/
theorem own_cell {w : World} {b o : Nat} {cs : Array Value} {T : TypeId} (h : Rg.Own w b cs T) (v : Value) : Rg.Own (w.setCell ⟨b, o, none⟩ v) b (cs.setIfInBounds o v) T :=
  ⟨by simp; exact h.1, heap_setCell_same w b o cs T v h.2⟩
theorem own_cell_other {w : World} {b g o : Nat} {cs : Array Value} {T : TypeId} (h : Rg.Own w b cs T) (v : Value) (hne : b ≠ g) : Rg.Own (w.setCell ⟨g, o, none⟩ v) b cs T := own_gb h (gb_set w g o v) hne
theorem RowI.shape {B : Nat} {w : World} {v : Value} {xs : List It} (h : RowI B w v xs) : ∃ a n c, v = .slice a n c := by
  obtain ⟨hs, _, ho, _⟩ := h
  rcases ho.2 with ⟨rfl, _⟩ | ⟨g, cap, cur, rfl, _⟩
  · exact ⟨_, _, _, rfl⟩
  · exact ⟨_, _, _, rfl⟩
theorem own_free' {w : World} {b j : Nat} {cs : Array Value} {T : TypeId} (h : Rg.Own w b cs T) : w.frozen? ⟨b, j, none⟩ = false := by
  simp [World.frozen?, h.2]
theorem wpl_item {ops : Array Oper} {rest : List Oper} {o : Oper} {a : Act} {w : World} {Q : Exit → Act → World → Prop} {x : It} {A : Option Addr} {N C : Nat} (hw : Region.wanted o (yielded ops a.tmps) = true)
    (y : Operand) (ho : o.op = .buildSlice 46 1 #[(0, y)]) (hy : a.eval y = .agg (itC x A N C))
    (h : ∀ w' b, Rg.Own w' b (itC x A N C) 48 → Below w.heap.size w w' → wpList Try.prog ops Q rest (a.put o.dst (.slice (some ⟨b, 0, none⟩) 1 1)) w') : wpList Try.prog ops Q (o :: rest) a w :=
  wpList_step fun _ hK => meetItem hw ⟨y, ho, hy⟩ (fun w' b h1 h2 => hK _ _ (h w' b h1 h2))
theorem wpl_push {ops : Array Oper} {rest : List Oper} {o : Oper} {a : Act} {w : World} {Q : Exit → Act → World → Prop} {B b2 : Nat} {v : Value} {xs : List It} {x : It} {A : Option Addr} {N C : Nat} (hw : Region.wanted o (yielded ops a.tmps) = true)
    (hR : RowI B w v xs) (h2 : Rg.Own w b2 (itC x A N C) 48) (hI : ItsP (fun b => B ≤ b ∧ v.ownBlock ≠ some b) w x.xs A N C) (hn : xs.length ≤ 4096) (hB : B ≤ w.heap.size)
    (s y : Operand) (ho : o.op = .call { callee := .builtin .append, args := #[s, y], argTypes := #[46, 46] }) (hs : a.eval s = v) (hy : a.eval y = .slice (some ⟨b2, 0, none⟩) 1 1)
    (h : ∀ v' w', RowI B w' v' (xs ++ [x]) → w.grownBy w' v.ownBlock → wpList Try.prog ops Q rest (a.put o.dst v') w') : wpList Try.prog ops Q (o :: rest) a w :=
  wpList_step fun _ hK => meetPush hw ⟨s, y, ho, hs, hy⟩ hR h2 hI hn hB (fun v' w' h1 h2 => hK _ _ (h v' w' h1 h2))

set_option maxHeartbeats 16000000 in
theorem rread_s_list (s : ByteArray) (d k : Nat) (dI lI : Int) (w : World) (hdI : dI = d) (hlI : lI + k = 4096) (hk : k ≤ 4096) (h : d ≤ 64) (h2 : k < 4096) (hmax : s.size ≤ 1000000) (c : UInt8) (t : List UInt8) (hs : s.data.toList = c :: t) (hc : 128 ≤ c.toNat) (hL : 192 ≤ c.toNat) (h5 : c.toNat % 64 ≤ 55) (hlt : c.toNat % 64 ≤ t.length) (hRC : ∀ r : ByteArray, r.size < s.size → RC r) : Calls Try.prog 35 #[.string s, .int .i64 dI, .int .i64 lI] w (RPost w (readL s.data.toList d k)) := by
  have HE : Hid (readL s.data.toList d k = listE (1 + c.toNat % 64) (allL (s.extract 1 (1 + c.toNat % 64)).data.toList (d + 1) (k + 1))) := Lib.hid (by
    have hx : (s.extract 1 (1 + c.toNat % 64)).data.toList = (s.data.toList.drop 1).take (c.toNat % 64) := by rw [ext_bytes]
    rw [hx, readL_eq, if_neg (by omega), if_neg (by omega), hs, headE_of c t hc, if_pos h5]
    dsimp only
    rw [if_neg (by rw [List.length_cons]; omega), if_pos (by simp; omega)]
    rfl)
  rw [HE.out]
  subst hdI
  have hs0 : 0 < s.size := by rw [size_len, hs]; simp
  have hne := size_pos_ne hs0
  have hsl : t.length + 1 = s.size := by rw [size_len, hs]; rfl
  have hg0 := get_at s 0 hs0
  rw [hs, List.getD_cons_zero] at hg0
  have hcl := c.toNat_lt
  obtain ⟨C, hC⟩ : ∃ C, c.toNat = C := ⟨_, rfl⟩
  rw [hC] at hcl
  have hg1 : (s[0]'hs0).toNat = C := by rw [hg0, hC]
  rw [hC] at hc h5 hlt hL ⊢
  obtain ⟨n0, hn0⟩ : ∃ n0, C % 64 = n0 := ⟨_, rfl⟩
  have hrem : (C : Int).tmod 64 = (n0 : Int) := by rw [Int.tmod_eq_emod_of_nonneg (by omega)]; omega
  have h55 : n0 ≤ 55 := by omega
  rw [hn0] at hlt h5 ⊢
  have hLb : decide (192 ≤ (C : Int)) = true := by simp; omega
  have hlt2 : n0 ≤ s.size - 1 := by omega
  obtain ⟨T, hT⟩ : ∃ T, s.extract 1 (1 + n0) = T := ⟨_, rfl⟩
  have hTs : T.size < s.size := by rw [← hT]; simp; omega
  rw [hT]
  have HRC : Hid (∀ r : ByteArray, r.size ≤ T.size → RC r) := Lib.hid (fun r hr => hRC r (by omega))
  obtain ⟨r0, hr0⟩ : ∃ r0, allL T.data.toList (d + 1) (k + 1) = r0 := ⟨_, rfl⟩
  have H0 : Hid (r0 = glue [] (allL T.data.toList (d + 1) (k + 1))) := Lib.hid (by rw [glue_zero, hr0])
  rw [hr0]
  have HTT := Lib.hid hT
  clear hg0 hs hC HE hRC hr0 hT
  obtain ⟨h1, h2⟩ := two_boxes w
  obtain ⟨hR, hN, hB, hsz⟩ := h2 _ rfl
  obtain ⟨h3, h4⟩ := three_boxes w _ hR hN hB hsz
  obtain ⟨hR4, hN4, hS4, hB4, hsz4⟩ := h4 _ rfl
  have HL0 := Lib.hid h3
  have HR4 := Lib.hid hR4
  have HN4 := Lib.hid hN4
  have HS4 := Lib.hid hS4
  have HB4 := Lib.hid hB4
  have HSz4 := Lib.hid hsz4
  have H1 := Lib.hid h1
  have HR := Lib.hid hR
  have HN := Lib.hid hN
  have HB := Lib.hid hB
  have HSz := Lib.hid hsz
  clear h3 h4 hR4 hN4 hS4 hB4 hsz4 h1 h2 hR hN hB hsz
  go_enter Try.func35, Try.ntmps35
  go_wp2_with (first
    | (refine wpl_store_it H1.out it0 none 0 0 rfl _ _ rfl rfl rfl rfl ?_)
    | (refine wpl_store_it HR.out it0 none 0 0 rfl _ _ rfl rfl rfl rfl ?_)
    | (refine Rg.run rfl _ _ (op_load_it HN.out ?_) ?_; · exact ⟨_, rfl, rfl⟩)
    | (refine wpl_store_it HL0.out (.mk true ⟨#[]⟩ []) none 0 0 rfl _ _ rfl rfl rfl rfl ?_))
  go_loopw [2, 17] (fun lv rs wr => ∃ (r : ByteArray) (xs : List It) (kk : Nat) (lJ : Int) (v : Value), lv = .int .i64 lJ ∧ rs = .string r ∧ lJ + kk = 4096 ∧ r.size ≤ T.size ∧ kk ≤ 4096 ∧ xs.length ≤ kk ∧ Hid (r0 = glue xs (allL r.data.toList (d + 1) kk)) ∧ Hid (RowI (w.heap.size + 3) wr v xs) ∧ Hid (Rg.Own wr w.heap.size (itC it0 none 0 0) 48) ∧ Hid (Rg.Own wr (w.heap.size + 1) (itC it0 none 0 0) 48) ∧ Hid (Rg.Own wr (w.heap.size + 2) #[.bool true, .string ⟨#[]⟩, v] 48) ∧ Hid (Below w.heap.size w wr) ∧ w.heap.size + 3 ≤ wr.heap.size) (fun _ rs _ => restSize rs)
  case atStart => exact ⟨T, [], k + 1, _, .slice none 0 0, rfl, congrArg Value.string HTT.out, by omega, Nat.le_refl _, by omega, Nat.zero_le _, Lib.hid H0.out, Lib.hid (RowI.nil _ _), Lib.hid HR4.out, Lib.hid HN4.out, Lib.hid HS4.out, Lib.hid HB4.out, by have := HSz4.out; omega⟩
  case round =>
    obtain ⟨r, xs, kk, lJ, v, rfl, rfl, hlJ, hrT, hkk, hxk, HGl, HRow, HRr, HNr, HSr, HBr, hszr⟩ := hrel
    clear H0 HR4 HN4 HS4 HB4 HSz4 HL0 H1 HR HN HB HSz
    by_cases hne : r.data.toList = []
    · have e1 : (r.toList == []) = true := by rw [ByteArray.toList_eq, hne]; rfl
      have e2 : (r.toList != []) = false := by rw [bne, e1]; rfl
      have e3 : r.toList.isEmpty = true := by rw [ByteArray.toList_eq, hne]; rfl
      have hg := HGl.out
      rw [hne, glue_nil] at hg
      obtain ⟨a', n', c', hv, hI⟩ := HRow.out.done (by omega)
      subst hg
      subst hv
      have HI := Lib.hid hI
      clear hI HRow HGl hne HRC
      go_wp2_with (first
        | (refine Rg.run rfl _ _ (op_load_it (x := .mk true ⟨#[]⟩ xs) HSr.out ?_) ?_; · exact ⟨_, rfl, rfl⟩)
        | (refine wpl_store_it HRr.out (.mk true ⟨#[]⟩ xs) a' n' c' rfl _ _ rfl rfl rfl rfl ?_))
      exact bodyPost_ret (res_item3 rfl _ rfl (own_rowI HRr.out)) rfl ⟨a', n', c', _, _, rfl, by omega, by omega, ItsIn.weak (ItsIn_row HI.out (by omega) _) (by omega), below_row HBr.out (Nat.le_refl _) _⟩
    · have e1 : (r.toList == []) = false := by rw [beq_eq_false_iff_ne, ByteArray.toList_eq]; exact hne
      have e2 : (r.toList != []) = true := by rw [bne, e1]; rfl
      have e3 : r.toList.isEmpty = false := by
        rw [ByteArray.toList_eq]
        cases hd : r.data.toList with
        | nil => exact absurd hd hne
        | cons _ _ => rfl
      have hrd := HRC.out r hrT (d + 1) kk ((d : Int) + 1) lJ wr (by omega) (by omega) hlJ hkk
      have hlv := HRow.out.lt
      cases hrr : readL r.data.toList (d + 1) kk with
      | error c1 =>
        rw [hrr] at hrd
        have HD : Hid (Calls Try.prog 35 #[.string r, .int .i64 ((d : Int) + 1), .int .i64 lJ] wr fun e w' => ∃ c : Int, c ≠ 0 ∧ e = .returned (.tuple #[itV it0 none 0 0, .int .i64 0, .int .i64 0, .int .i64 c]) ∧ Below wr.heap.size wr w') := Lib.hid hrd
        have hg := HGl.out
        rw [glue_err hne hrr] at hg
        subst hg
        clear hrd hrr HGl hne HRow HRC hlv
        go_wp2_with fail
        with_reducible refine HD.out.mono ?_
        rintro e w1 ⟨c2, hc2, rfl, hb1⟩
        have hne2 : (c2 != 0) = true := by simp; exact hc2
        have HT0 : Hid (Rg.Own (w1.alloc (.cells #[.bool false, .string ⟨#[]⟩, .slice none 0 0] 48)) w1.heap.size (itC it0 none 0 0) 48) := Lib.hid (Rg.Own.new _ _ _)
        have hz1 := hb1.size
        have HR1 := Lib.hid (own_row (cs' := itC it0 none 0 0) ((HRr.out.below hb1).below (al1 w1 (.cells #[.bool false, .string ⟨#[]⟩, .slice none 0 0] 48))) (show w.heap.size ≠ w1.heap.size by omega))
        have HN1 := Lib.hid (own_row (cs' := itC it0 none 0 0) ((HNr.out.below hb1).below (al1 w1 (.cells #[.bool false, .string ⟨#[]⟩, .slice none 0 0] 48))) (show w.heap.size + 1 ≠ w1.heap.size by omega))
        have HB1 := Lib.hid (below_row (below_step' (HBr.out.trans (hb1.mono (by omega))) (al1 w1 (.cells #[.bool false, .string ⟨#[]⟩, .slice none 0 0] 48))) (show w.heap.size ≤ w1.heap.size by omega) (itC it0 none 0 0))
        clear hb1 HD
        unfold itV
        go_wp2_with (first
          | (refine wpl_store_it HT0.out it0 none 0 0 rfl _ _ rfl rfl rfl rfl ?_)
          | (refine Rg.run rfl _ _ (op_load_it HN1.out ?_) ?_; · exact ⟨_, rfl, rfl⟩)
          | (refine wpl_store_it HR1.out it0 none 0 0 rfl _ _ rfl rfl rfl rfl ?_))
        exact bodyPost_ret (res_item3 rfl _ rfl (own_rowI HR1.out)) rfl ⟨c2, hc2, rfl, below_row HB1.out (Nat.le_refl _) _⟩
      | ok q =>
        obtain ⟨x, n1, k2⟩ := q
        rw [hrr] at hrd
        have HD : Hid (Calls Try.prog 35 #[.string r, .int .i64 ((d : Int) + 1), .int .i64 lJ] wr fun e w' => ∃ (a : Option Addr) (nn cap : Nat) (nI lI : Int), e = .returned (.tuple #[itV x a nn cap, .int .i64 nI, .int .i64 lI, .int .i64 0]) ∧ nI = n1 ∧ lI + k2 = 4096 ∧ ItsIn wr.heap.size w' x.xs a nn cap ∧ Below wr.heap.size wr w') := Lib.hid hrd
        obtain ⟨p1, p2, p3, p4⟩ := (props r.data.toList.length).1 _ _ _ _ _ _ (Nat.le_refl _) hrr
        rw [← size_len] at p2
        have hg := HGl.out
        rw [glue_more hne p1 hrr] at hg
        have HGl2 := Lib.hid hg
        have HOk : Hid (∀ j, v.ownBlock = some j → w.heap.size + 3 ≤ j ∧ j < wr.heap.size) := Lib.hid hlv
        clear hrd hrr HGl hne hg hlv HRC
        unfold itV at HD
        go_wp2_with fail
        with_reducible refine HD.out.mono ?_
        rintro e w1 ⟨A1, N1, C1, nI, lI2, rfl, hnI, hl2, hI, hb1⟩
        have hz1 := hb1.size
        have HT0 : Hid (Rg.Own (w1.alloc (.cells #[.bool false, .string ⟨#[]⟩, .slice none 0 0] 48)) w1.heap.size (itC it0 none 0 0) 48) := Lib.hid (Rg.Own.new _ _ _)
        obtain ⟨w3, hw3⟩ : ∃ w3, w3 = (w1.alloc (.cells #[.bool false, .string ⟨#[]⟩, .slice none 0 0] 48)).setRow w1.heap.size (itC x A1 N1 C1) := ⟨_, rfl⟩
        have hz3 : w3.heap.size = w1.heap.size + 1 := by rw [hw3]; simp
        have hb3 : Below w1.heap.size w1 w3 := by rw [hw3]; exact below_row (al1 _ _) (Nat.le_refl _) _
        have HT3 : Hid (Rg.Own w3 w1.heap.size (itC x A1 N1 C1) 48) := Lib.hid (by rw [hw3]; exact own_row_same HT0.out)
        have HR3 := Lib.hid ((HRr.out.below hb1).below hb3)
        have HN3 := Lib.hid ((HNr.out.below hb1).below hb3)
        have hS3 := (HSr.out.below hb1).below hb3
        have HS3 := Lib.hid hS3
        have HRow3 := Lib.hid ((HRow.out.below' hb1).below' hb3)
        have HB3 := Lib.hid (below_step' (HBr.out.trans (hb1.mono (by omega))) hb3)
        have HI3 : Hid (ItsP (fun b => w.heap.size + 3 ≤ b ∧ v.ownBlock ≠ some b) w3 x.xs A1 N1 C1) := Lib.hid ((ItsP.to hI (p' := fun b => w.heap.size + 3 ≤ b ∧ v.ownBlock ≠ some b) (fun b _ hb => ⟨by omega, fun e => by have := (HOk.out b e).2; omega⟩)).stays hb3)
        have c2 : w3.cell? ⟨w.heap.size + 1 + 1, 2, none⟩ = some v := by rw [cell_of_row w3 _ _ _ _ _ hS3.2]; rfl
        have hl3 : (w.heap.size + 3) ≤ w3.heap.size := by omega
        clear hb1 hI hb3 HD HRr HNr HSr HRow HBr hS3
        subst hw3
        go_wp2_with (first
          | (refine wpl_store_it HT0.out x A1 N1 C1 rfl _ _ rfl rfl rfl rfl ?_)
          | (refine Rg.run rfl _ _ (op_load_it HT3.out ?_) ?_; · exact ⟨_, rfl, rfl⟩)
          | (refine wpl_item (x := x) (A := A1) (N := N1) (C := C1) (by rfl) _ rfl rfl ?_; intro w4 b4 ho4 hb4)
          | (refine wpl_push (B := w.heap.size + 3) (v := v) (by rfl) (HRow3.out.below' hb4) ho4 (HI3.out.stays hb4) (by omega) (by have := hb4.size; omega) _ _ rfl rfl rfl ?_; intro v5 w5 hr5 hg5; obtain ⟨a5, n5, k5, rfl⟩ := hr5.shape; have hO5 := own_gb' (HS3.out.below hb4) hg5 (fun e => by have := (HOk.out _ e).1; omega); have c5 : w5.cell? ⟨w.heap.size + 1 + 1, 2, none⟩ = some v := (by rw [cell_of_row w5 _ _ _ _ _ hO5.2]; rfl); have f5 : w5.frozen? ⟨w.heap.size + 1 + 1, 2, none⟩ = false := own_free' hO5))
        obtain ⟨v5, hv5⟩ : ∃ v5, Value.slice a5 n5 k5 = v5 := ⟨_, rfl⟩
        rw [hv5] at hr5
        have hvb : ∀ b, b = w.heap.size ∨ b = w.heap.size + 1 ∨ b = w.heap.size + 2 → v.ownBlock ≠ some b := fun b hb e => by have := (HOk.out b e).1; omega
        have hz4 := hb4.size
        have HO6 : Hid (Rg.Own (w5.setCell ⟨w.heap.size + 2, 2, none⟩ v5) (w.heap.size + 2) #[.bool true, .string ⟨#[]⟩, v5] 48) := Lib.hid (own_cell hO5 v5)
        have HR6 := Lib.hid (own_cell_other (o := 2) (own_gb' (HR3.out.below hb4) hg5 (hvb _ (.inl rfl))) v5 (show w.heap.size ≠ w.heap.size + 2 by omega))
        have HN6 := Lib.hid (own_cell_other (o := 2) (own_gb' (HN3.out.below hb4) hg5 (hvb _ (.inr (.inl rfl)))) v5 (show w.heap.size + 1 ≠ w.heap.size + 2 by omega))
        have HRow6 := Lib.hid (hr5.gb (gb_set w5 (w.heap.size + 2) 2 v5) (by omega))
        have HB6 : Hid (Below w.heap.size w (w5.setCell ⟨w.heap.size + 2, 2, none⟩ v5)) := Lib.hid (((below_step' HB3.out hb4).grown hg5 (by omega) (fun j hj => by have := (HOk.out j hj).1; omega)).setCell (p := ⟨w.heap.size + 2, 2, none⟩) (by show w.heap.size ≤ w.heap.size + 2; omega) _)
        have hz5 := hg5.size
        have hz6 : w.heap.size + 3 ≤ (w5.setCell ⟨w.heap.size + 2, 2, none⟩ v5).heap.size := by simp; omega
        have hcut : (r.extract n1 r.size).size = r.size - n1 := by simp
        have HRB := Lib.hid (rest_bytes r n1 p2)
        subst hnI
        subst hv5
        clear hO5 hr5 hg5 hb4 ho4 HS3 HN3 HR3 HRow3 HI3 HT3 HT0 HB3 hvb
        go_wp2
        go_roundw
        case rel => exact ⟨r.extract n1 r.size, xs ++ [x], k2, lI2, .slice a5 n5 k5, rfl, rfl, hl2, by omega, p4, by rw [List.length_append, List.length_singleton]; omega, Lib.hid (by rw [HRB.out]; exact HGl2.out), HRow6, HR6, HN6, HO6, HB6, hz6⟩
        case measure => simp [restSize]; omega
end Rl
end Go.Proofs.Ytbdhncaiffepoaa

/-
  Contracts of node.readBranch, node.read.
-/
namespace Go.Proofs.Ytbdhncaiffepoaa
set_option maxRecDepth 100000
open Go.RowKit

namespace No
open Rl Ni
theorem allK_snoc (l : List It) (x : It) : allK (l ++ [x]) = match allK l with
    | none => none
    | some ks => match kidP x with
      | none => none
      | some k => some (ks ++ [k]) := by
  induction l with
  | nil =>
    simp only [List.nil_append, allK]
    cases kidP x <;> rfl
  | cons y ys ih =>
    simp only [List.cons_append, allK, ih]
    cases kidP y <;> cases allK ys <;> cases kidP x <;> rfl
theorem allK_app_none {l r : List It} (h : allK l = none) : allK (l ++ r) = none := by
  induction l with
  | nil => cases h
  | cons y ys ih =>
    simp only [List.cons_append, allK] at h ⊢
    cases hy : kidP y with
    | none => rfl
    | some k =>
      rw [hy] at h
      dsimp only at h ⊢
      cases hys : allK ys with
      | none => rw [ih hys]
      | some ks => rw [hys] at h; cases h
theorem allK_step {xs : List It} {j : Nat} {x : It} {ks : List ByteArray} (hx : xs[j]? = some x) (h : allK (xs.take j) = some ks) {k : ByteArray} (hk : kidP x = some k) : allK (xs.take (j + 1)) = some (ks ++ [k]) := by
  rw [List.take_add_one, hx, Option.toList_some, allK_snoc, h, hk]
theorem allK_stop {xs : List It} {j m : Nat} {x : It} (hx : xs[j]? = some x) (hj : j < m) (hk : kidP x = none) : allK (xs.take m) = none := by
  have : xs.take m = xs.take (j + 1) ++ (xs.drop (j + 1)).take (m - (j + 1)) := by rw [← List.take_add, show j + 1 + (m - (j + 1)) = m by omega]
  rw [this]
  refine allK_app_none ?_
  rw [List.take_add_one, hx, Option.toList_some, allK_snoc, hk]
  cases allK (xs.take j) <;> rfl
theorem allK_len {xs : List It} {ks : List ByteArray} (h : allK xs = some ks) : ks.length = xs.length := (allK_mem h).1
theorem kidC_set (ks : List ByteArray) (j : Nat) (hj : j < 16) (hl : ks.length = j) (k : ByteArray) : (kidC (ks ++ List.replicate (16 - j) eB)).setIfInBounds j (.string k) = kidC (ks ++ [k] ++ List.replicate (16 - (j + 1)) eB) := by
  unfold kidC
  rw [show 16 - j = (16 - (j + 1)) + 1 by omega, List.replicate_succ]
  simp [hl]
theorem kids_cell {w : World} {b : Nat} {ks : List ByteArray} (h : OwnK w b ks) (j : Nat) (hj : j < ks.length) : w.cell? ⟨b, j, none⟩ = some (.string (ks.getD j eB)) := by
  rw [cell_of_row w b _ _ _ _ h.2]
  unfold kidC
  simp [List.getD, hj]

set_option maxHeartbeats 16000000 in
theorem readBranch_any (xs : List It) (a : Option Addr) (n cap : Nat) (w : World) (h : IsIts w xs a n cap) (h17 : xs.length = 17) (hG : ∀ x ∈ xs, Good x) :
    Calls Try.prog 55 #[.slice a n cap] w (ReadPost w (readP xs)) := by
  have hR : readP xs = readBranchP xs := by unfold readP; rw [if_neg (by omega), if_pos h17]
  rw [hR]
  have hm := h.max
  have hnc := h.le
  have hl := h.len
  unfold maxLen at hm
  have hn17 : n = 17 := by omega
  have HX : Hid (∀ j, j < 17 → ∃ x, xs[j]? = some x ∧ Fits 0 x ∧ x.size ≤ 4096 ∧ x.bytes.length ≤ 4294967296) := Lib.hid (fun j hj => by
    have hx : xs[j]? = some (xs[j]'(by omega)) := List.getElem?_eq_getElem (by omega)
    obtain ⟨g1, g2, g3, _⟩ := hG _ (List.mem_of_getElem? hx)
    exact ⟨_, hx, g1, g2, g3⟩)
  obtain ⟨w2, hw2⟩ : ∃ w2, w2 = w.alloc (.cells (ndC nd0 none 0 0) 25) := ⟨_, rfl⟩
  have hO : OwnN w2 w.heap.size nd0 none 0 0 := by rw [hw2]; exact Rg.Own.new _ _ _
  have hB2 : Below w.heap.size w w2 := by rw [hw2]; exact al1 _ _
  have hs2 : w2.heap.size = w.heap.size + 1 := by rw [hw2]; simp
  have HO := Lib.hid hO
  have HB2 := Lib.hid hB2
  have HI := Lib.hid h
  have HR := Lib.hid (rfl : readBranchP xs = readBranchP xs)
  obtain ⟨y, b, off, A, N, C, hy, ha, hblt, hL, hI⟩ := h.at' 16 (by omega)
  have HL16 := Lib.hid hL
  have HY := Lib.hid hy
  have H17 := Lib.hid h17
  clear h hO hB2 hG hR hl hL hI hy h17
  subst hw2
  subst hn17
  subst ha
  go_enter Try.func55, Try.ntmps55
  go_wp2_with (refine Rg.run rfl _ _ (run_alloc_nd _ _ _ w.heap.size rfl rfl) ?_)
  refine (ntell_any _ _ _ _).mono ?_
  rintro e w3 ⟨rfl, hw3⟩
  have hb3 : Below (w.alloc (.cells (ndC nd0 none 0 0) 25)).heap.size (w.alloc (.cells (ndC nd0 none 0 0) 25)) w3 := by rw [hw3]; exact al1 _ _
  have hs3 : w3.heap.size = w.heap.size + 2 := by rw [hw3]; simp
  have hc3 : w3.cell? ⟨w.heap.size + 1, 0, none⟩ = some (.slice (some ⟨b, off, none⟩) 17 cap) := by
    rw [hw3, ← hs2, World.cell?_alloc_mark]; rfl
  have hO4 := (HO.out.below hb3).below (al1 w3 (.cells (kidC zks) 23))
  have hK4 := Rg.Own.new w3 (kidC zks) 23
  rw [hs3] at hK4
  have hB4 := (below_step' HB2.out hb3).trans ((al1 w3 (.cells (kidC zks) 23)).mono (by omega))
  have hc4 : (w3.alloc (.cells (kidC zks) 23)).cell? ⟨w.heap.size + 1, 0, none⟩ = some (.slice (some ⟨b, off, none⟩) 17 cap) := by
    rw [(al1 w3 _).cell (p := ⟨w.heap.size + 1, 0, none⟩) (by show w.heap.size + 1 < _; omega)]; exact hc3
  have HO4 := Lib.hid hO4
  have HK4 := Lib.hid hK4
  have HB4 := Lib.hid hB4
  have HC4 := Lib.hid hc4
  have hcv : (w.alloc (.cells (ndC nd0 none 0 0) 25)).heap.size = w.heap.size + 1 := hs2
  simp only [hcv]
  clear hb3 hO4 hK4 hB4 hc4 hc3 hw3 HO HB2 hs2 hcv
  go_wp2_with (refine Rg.run rfl _ _ (run_alloc_ks _ _ _ (w.heap.size + 2) hs3.symm rfl) ?_)
  have hq : Hid (allK (xs.take 0) = some []) := Lib.hid rfl
  go_loopw [12] (fun i wr => ∃ (j : Nat) (ks : List ByteArray), j ≤ 16 ∧ i = .int .i64 j ∧ ks.length = j ∧ Hid (allK (xs.take j) = some ks) ∧ Hid (OwnK wr (w.heap.size + 2) (ks ++ List.replicate (16 - j) eB)) ∧ Hid (OwnN wr w.heap.size nd0 none 0 0) ∧ Hid (wr.cell? ⟨w.heap.size + 1, 0, none⟩ = some (.slice (some ⟨b, off, none⟩) 17 cap)) ∧ Hid (Below w.heap.size w wr)) (fun i _ => 16 - (intOf i).toNat)
  case atStart => exact ⟨0, [], Nat.zero_le _, rfl, rfl, hq, Lib.hid HK4.out, Lib.hid HO4.out, Lib.hid HC4.out, Lib.hid HB4.out⟩
  case round =>
    obtain ⟨j, ks, hj, rfl, hkj, HA, HK, HN, HC, HB⟩ := hrel
    clear hq HO4 HK4 HB4 HC4 hs3
    by_cases hlt : j < 16
    · obtain ⟨x, hx, hf1, hf2, hf3⟩ := HX.out j (by omega)
      have HT := Lib.hid (ntell1_any (w.heap.size + 1) j xs (some ⟨b, off, none⟩) 17 cap x wr HC.out (HI.out.stays HB.out) hx hf1 hf2 hf3)
      have Hx := Lib.hid hx
      clear hx hf1 hf2 hf3
      go_wp2_with fail
      refine HT.out.mono ?_
      rintro e w5 ⟨s5, b5, rfl, hk5, hb5⟩
      have HN5 := Lib.hid (HN.out.below hb5)
      have hK5 := HK.out.below hb5
      have HB5 := Lib.hid (below_step' HB.out hb5)
      have HC5 := Lib.hid ((Below.cell (p := ⟨w.heap.size + 1, 0, none⟩) hb5 (World.block_lt_of_cell? wr _ HC.out)).trans HC.out)
      have hl5 : (ks ++ List.replicate (16 - j) eB).length = 16 := by simp; omega
      have c5 := kids_cell hK5 j (by omega)
      have f5 : w5.frozen? ⟨w.heap.size + 2, j, none⟩ = false := own_free' hK5
      have HK5 := Lib.hid hK5
      have Hk5 := Lib.hid hk5
      clear hk5 hb5 hK5 HT HN HK HB HC
      cases b5 with
      | true =>
        have HKP : Hid (kidP x = some s5) := Lib.hid (by rcases Hk5.out with ⟨_, h⟩ | ⟨h, _⟩; exact h; cases h)
        go_wp2
        go_roundw
        case rel =>
          refine ⟨j + 1, ks ++ [s5], by omega, by go_num, by simp [hkj], Lib.hid (allK_step Hx.out HA.out HKP.out), Lib.hid ?_, Lib.hid (own_cell_other HN5.out _ (by omega)), Lib.hid ?_, Lib.hid ?_⟩
          · have h := own_cell (o := j) HK5.out (.string s5)
            rw [kidC_set ks j hlt hkj s5] at h
            exact h
          · rw [World.cell?_setCell_far _ _ _ _ (by show w.heap.size + 2 ≠ w.heap.size + 1; omega)]; exact HC5.out
          · exact HB5.out.setCell (by show w.heap.size ≤ w.heap.size + 2; omega) _
        case measure => simp [intOf]; omega
      | false =>
        have HKP : Hid (kidP x = none) := Lib.hid (by rcases Hk5.out with ⟨h, _⟩ | ⟨_, h⟩; cases h; exact h)
        go_wp2_with (first
          | (refine Rg.run rfl _ _ (op_build built0 ?_) ?_; · exact ⟨_, rfl, rfl⟩)
          | (refine wpl_store_nd HN5.out rfl nd0 none 0 0 rfl rfl _ _ rfl rfl rfl rfl ?_))
        refine bodyPost_ret (res_nd1 rfl _ rfl (own_rowN HN5.out) rfl) rfl ⟨nd0, none, 0, 0, false, rfl, .inr ⟨rfl, ?_⟩, BsF.nil _ _, rfl, below_rowN HB5.out (Nat.le_refl _) _⟩
        unfold readBranchP
        rw [allK_stop Hx.out hlt HKP.out]
    · obtain rfl : j = 16 := by omega
      have HB16 : Hid (readBranchP xs = if y.l = false ∧ y.s.size = 0 then some ⟨3, [], eB, ks⟩ else none) := Lib.hid (by
        unfold readBranchP
        rw [HA.out]
        have : xs.getD 16 it0 = y := Option.some.inj ((getD_at (xs := xs) (i := 16) (by rw [H17.out]; omega)).symm.trans HY.out)
        rw [this])
      have HK16 : Hid (OwnK wr (w.heap.size + 2) ks) := Lib.hid (by have := HK.out; simpa using this)
      have hkl : ks.length = 16 := hkj
      have q0 : wr.cell? ⟨b, off + 48, none⟩ = some (.bool y.l) := (Below.cell (p := ⟨b, _, none⟩) HB.out hblt).trans HL16.out.1
      have q1 : wr.cell? ⟨b, off + 48 + 1, none⟩ = some (.string y.s) := (Below.cell (p := ⟨b, _, none⟩) HB.out hblt).trans HL16.out.2.1
      have q2 : wr.cell? ⟨b, off + 48 + 2, none⟩ = some (.slice A N C) := (Below.cell (p := ⟨b, _, none⟩) HB.out hblt).trans HL16.out.2.2
      clear HA HK HC HX HL16 HY H17 HI HR
      cases hyl : y.l with
      | true =>
        have HF : Hid (readBranchP xs = none) := Lib.hid (by rw [HB16.out, hyl]; rfl)
        clear HB16
        rw [hyl] at q0
        obtain ⟨wl, hwl⟩ : ∃ wl, wl = wr.alloc (.cells #[.bool true, .string y.s, .slice A N C] 48) := ⟨_, rfl⟩
        have hbl : Below wr.heap.size wr wl := by rw [hwl]; exact al1 _ _
        have hcl : wr.heap.size < wl.heap.size := by rw [hwl]; simp
        have e0 : wl.cell? ⟨wr.heap.size, 0, none⟩ = some (.bool true) := by rw [hwl, World.cell?_alloc_mark]; rfl
        have e1 : wl.cell? ⟨wr.heap.size, 1, none⟩ = some (.string y.s) := by rw [hwl, World.cell?_alloc_mark]; rfl
        have HKl := Lib.hid (HK16.out.below hbl)
        have HNl := Lib.hid (HN.out.below hbl)
        have HBl := Lib.hid (below_step' HB.out hbl)
        clear hbl
        go_wp2_with fail
        rw [← hwl]
        clear hwl
        obtain ⟨g, hg⟩ : ∃ g, wr.heap.size = g := ⟨_, rfl⟩
        have hge : w.heap.size + 2 < g := by rw [← hg]; exact HK16.out.1
        rw [hg] at e0 e1 hcl ⊢
        clear hg
        have hON := HNl.out.drew
        have hw0 : w.heap.size < wl.drew.heap.size := HNl.out.1
        refine wp_region_noPanic ?_
        refine wp_region_held_drew (S := fun w' => Rg.Own w' (w.heap.size + 2) (kidC ks) 23 ∧ w'.cell? ⟨g, 0, none⟩ = some (.bool true) ∧ w'.cell? ⟨g, 1, none⟩ = some (.string y.s) ∧ Below w.heap.size w w') (by kernel_rfl) (⟨HKl.out.drew, e0, e1, HBl.out.drew⟩) (fun hHeld => ?_)
        refine Rg.takeL (i := 0) (v := ?_) rfl (by kernel_rfl) (by kernel_rfl) (by kernel_rfl) (fun _ _ _ h => h) (Or.inl ⟨by rfl, ?_⟩) (by assumption) ?_
        rotate_left
        · (intro wz hSw; (refine op_load_kc hSw.1 hkl ?_; exact ⟨_, rfl, rfl⟩))
        try simp only [Act.put, List.setIfInBounds_toArray, List.set_cons_zero, List.set_cons_succ]
        refine Rg.takeL (i := 2) (v := ?_) rfl (by kernel_rfl) (by kernel_rfl) (by kernel_rfl) (fun _ _ _ h => h) (Or.inl ⟨by rfl, ?_⟩) (by assumption) ?_
        rotate_left
        · (intro wz hSw; (try dsimp only at hSw); go_simp <;> with_reducible rfl)
        try simp only [Act.put, List.setIfInBounds_toArray, List.set_cons_zero, List.set_cons_succ]
        refine Rg.takeL (i := 3) (v := ?_) rfl (by kernel_rfl) (by kernel_rfl) (by kernel_rfl) (fun _ _ _ h => h) (Or.inl ⟨by rfl, ?_⟩) (by assumption) ?_
        rotate_left
        · (intro wz hSw; (have q0 := hSw.2.1; go_simp <;> with_reducible rfl))
        try simp only [Act.put, List.setIfInBounds_toArray, List.set_cons_zero, List.set_cons_succ]
        refine Rg.takeL (i := 4) (v := ?_) rfl (by kernel_rfl) (by kernel_rfl) (by kernel_rfl) (fun _ _ _ h => h) (Or.inl ⟨by rfl, ?_⟩) (by assumption) ?_
        rotate_left
        · (intro wz hSw; (try dsimp only at hSw); go_simp <;> with_reducible rfl)
        try simp only [Act.put, List.setIfInBounds_toArray, List.set_cons_zero, List.set_cons_succ]
        refine wpAnyH_ready (rs := [1]) (by kernel_rfl) (by simp) ?_
        refine Rg.readyL (i := 1) rfl (fun K hK => ?_)
        go_simp
        go_at_call 17
        (with_reducible refine (branch_any ks hkl _).mono ?_)
        rintro e wv0 ⟨a5, n5, c5, rfl, hx5, hl5, hbx⟩
        have hHN := hON.below hbx
        have hg0 : g < wl.drew.heap.size := World.block_lt_of_cell? _ _ hHeld.2.1
        refine hK.out _ _ ?_ (fun hHeld => ?_)
        · exact ⟨hHeld.1.below hbx, (Below.cell (p := ⟨g, 0, none⟩) hbx hg0).trans hHeld.2.1, (Below.cell (p := ⟨g, 1, none⟩) hbx hg0).trans hHeld.2.2.1, below_step' hHeld.2.2.2 hbx⟩
        clear hK K hbx hON
        try simp only [Act.put, List.setIfInBounds_toArray, List.set_cons_zero, List.set_cons_succ]
        refine Rg.takeL (i := 5) (v := ?_) rfl (by kernel_rfl) (by kernel_rfl) (by kernel_rfl) (fun _ _ _ h => h) (Or.inl ⟨by rfl, ?_⟩) (by assumption) ?_
        rotate_left
        · (intro wz hSw; (try dsimp only at hSw); go_simp <;> with_reducible rfl)
        try simp only [Act.put, List.setIfInBounds_toArray, List.set_cons_zero, List.set_cons_succ]
        refine Rg.takeL (i := 6) (v := undef) rfl (by kernel_rfl) (by kernel_rfl) (by kernel_rfl) (fun _ _ _ h => h) (Or.inr ⟨by rfl, rfl⟩) (by assumption) ?_
        try simp only [Act.put, List.setIfInBounds_toArray, List.set_cons_zero, List.set_cons_succ]
        refine Rg.takeL (i := 7) (v := undef) rfl (by kernel_rfl) (by kernel_rfl) (by kernel_rfl) (fun _ _ _ h => h) (Or.inr ⟨by rfl, rfl⟩) (by assumption) ?_
        try simp only [Act.put, List.setIfInBounds_toArray, List.set_cons_zero, List.set_cons_succ]
        refine Rg.takeL (i := 8) (v := undef) rfl (by kernel_rfl) (by kernel_rfl) (by kernel_rfl) (fun _ _ _ h => h) (Or.inr ⟨by rfl, rfl⟩) (by assumption) ?_
        try simp only [Act.put, List.setIfInBounds_toArray, List.set_cons_zero, List.set_cons_succ]
        refine Rg.takeL (i := 9) (v := ?_) rfl (by kernel_rfl) (by kernel_rfl) (by kernel_rfl) (fun _ _ _ h => h) (Or.inl ⟨by rfl, ?_⟩) (by assumption) ?_
        rotate_left
        · (intro wz hSw; (try dsimp only at hSw); go_simp <;> with_reducible rfl)
        try simp only [Act.put, List.setIfInBounds_toArray, List.set_cons_zero, List.set_cons_succ]
        refine wpAnyH_ready (rs := [10]) (by kernel_rfl) (by simp) ?_
        refine Rg.readyL (i := 10) rfl (fun K hK => ?_)
        refine Rg.meetStore (by rfl) hHN 25 (ndC ⟨3, [], eB, ks⟩ a5 n5 c5) ⟨_, _, rfl, rfl, rfl⟩ (info_ndC _ _ _ _ hkl) (by rw [ndC_size _ _ _ _ rfl, ndC_size _ _ _ _ hkl]) (ndC_one _ _ _ _) ?_
        rintro wz hn hu
        have hx6 : BsF w.heap.size wz a5 n5 c5 [] := (hx5.upd hu (by omega)).weak (by omega)
        refine hK.out _ _ ?_ (fun hHeld => ?_)
        · exact ⟨hHeld.1.upd hu (by omega), (World.cell?_of_block (hu.block g (by omega))).trans hHeld.2.1, (World.cell?_of_block (hu.block g (by omega))).trans hHeld.2.2.1, hu.below hHeld.2.2.2 (Nat.le_refl _)⟩
        clear hK K hHN hx5
        try simp only [Act.put]
        refine Rg.takeL (i := 11) (v := ?_) rfl (by kernel_rfl) (by kernel_rfl) (by kernel_rfl) (fun _ _ _ h => h) (Or.inl ⟨by rfl, ?_⟩) (by assumption) ?_
        rotate_left
        · (intro wz hSw; (try dsimp only at hSw); go_simp <;> with_reducible rfl)
        try simp only [Act.put, List.setIfInBounds_toArray, List.set_cons_zero, List.set_cons_succ]
        refine wpAnyH_done (by kernel_rfl) ?_ _
        refine NoPanic.normal ?_
        go_wp2
        exact bodyPost_ret (res_nd1 rfl _ rfl hn hkl) rfl ⟨⟨3, [], eB, ks⟩, a5, n5, c5, false, rfl, .inr ⟨rfl, HF.out⟩, hx6, hkl, hHeld.2.2.2⟩
      | false =>
        rw [hyl] at q0
        by_cases hys : y.s.size = 0
        · have hye := size_zero hys
          have HF : Hid (readBranchP xs = some ⟨3, [], eB, ks⟩) := Lib.hid (by rw [HB16.out, if_pos ⟨hyl, hys⟩])
          clear HB16
          rw [hye] at q1
          obtain ⟨wl, hwl⟩ : ∃ wl, wl = wr.alloc (.cells #[.bool false, .string ⟨#[]⟩, .slice A N C] 48) := ⟨_, rfl⟩
          have hbl : Below wr.heap.size wr wl := by rw [hwl]; exact al1 _ _
          have hcl : wr.heap.size < wl.heap.size := by rw [hwl]; simp
          have e0 : wl.cell? ⟨wr.heap.size, 0, none⟩ = some (.bool false) := by rw [hwl, World.cell?_alloc_mark]; rfl
          have e1 : wl.cell? ⟨wr.heap.size, 1, none⟩ = some (.string ⟨#[]⟩) := by rw [hwl, World.cell?_alloc_mark]; rfl
          have HKl := Lib.hid (HK16.out.below hbl)
          have HNl := Lib.hid (HN.out.below hbl)
          have HBl := Lib.hid (below_step' HB.out hbl)
          clear hbl
          go_wp2_with fail
          rw [← hwl]
          clear hwl
          obtain ⟨g, hg⟩ : ∃ g, wr.heap.size = g := ⟨_, rfl⟩
          have hge : w.heap.size + 2 < g := by rw [← hg]; exact HK16.out.1
          rw [hg] at e0 e1 hcl ⊢
          clear hg
          have hON := HNl.out.drew
          have hw0 : w.heap.size < wl.drew.heap.size := HNl.out.1
          refine wp_region_noPanic ?_
          refine wp_region_held_drew (S := fun w' => Rg.Own w' (w.heap.size + 2) (kidC ks) 23 ∧ w'.cell? ⟨g, 0, none⟩ = some (.bool false) ∧ w'.cell? ⟨g, 1, none⟩ = some (.string ⟨#[]⟩) ∧ Below w.heap.size w w') (by kernel_rfl) (⟨HKl.out.drew, e0, e1, HBl.out.drew⟩) (fun hHeld => ?_)
          refine Rg.takeL (i := 0) (v := ?_) rfl (by kernel_rfl) (by kernel_rfl) (by kernel_rfl) (fun _ _ _ h => h) (Or.inl ⟨by rfl, ?_⟩) (by assumption) ?_
          rotate_left
          · (intro wz hSw; (refine op_load_kc hSw.1 hkl ?_; exact ⟨_, rfl, rfl⟩))
          try simp only [Act.put, List.setIfInBounds_toArray, List.set_cons_zero, List.set_cons_succ]
          refine Rg.takeL (i := 2) (v := ?_) rfl (by kernel_rfl) (by kernel_rfl) (by kernel_rfl) (fun _ _ _ h => h) (Or.inl ⟨by rfl, ?_⟩) (by assumption) ?_
          rotate_left
          · (intro wz hSw; (try dsimp only at hSw); go_simp <;> with_reducible rfl)
          try simp only [Act.put, List.setIfInBounds_toArray, List.set_cons_zero, List.set_cons_succ]
          refine Rg.takeL (i := 3) (v := ?_) rfl (by kernel_rfl) (by kernel_rfl) (by kernel_rfl) (fun _ _ _ h => h) (Or.inl ⟨by rfl, ?_⟩) (by assumption) ?_
          rotate_left
          · (intro wz hSw; (have q0 := hSw.2.1; go_simp <;> with_reducible rfl))
          try simp only [Act.put, List.setIfInBounds_toArray, List.set_cons_zero, List.set_cons_succ]
          refine Rg.takeL (i := 4) (v := ?_) rfl (by kernel_rfl) (by kernel_rfl) (by kernel_rfl) (fun _ _ _ h => h) (Or.inl ⟨by rfl, ?_⟩) (by assumption) ?_
          rotate_left
          · (intro wz hSw; (try dsimp only at hSw); go_simp <;> with_reducible rfl)
          try simp only [Act.put, List.setIfInBounds_toArray, List.set_cons_zero, List.set_cons_succ]
          refine wpAnyH_ready (rs := [1]) (by kernel_rfl) (by simp) ?_
          refine Rg.readyL (i := 1) rfl (fun K hK => ?_)
          go_simp
          go_at_call 17
          (with_reducible refine (branch_any ks hkl _).mono ?_)
          rintro e wv0 ⟨a5, n5, c5, rfl, hx5, hl5, hbx⟩
          have hHN := hON.below hbx
          have hg0 : g < wl.drew.heap.size := World.block_lt_of_cell? _ _ hHeld.2.1
          refine hK.out _ _ ?_ (fun hHeld => ?_)
          · exact ⟨hHeld.1.below hbx, (Below.cell (p := ⟨g, 0, none⟩) hbx hg0).trans hHeld.2.1, (Below.cell (p := ⟨g, 1, none⟩) hbx hg0).trans hHeld.2.2.1, below_step' hHeld.2.2.2 hbx⟩
          clear hK K hbx hON
          try simp only [Act.put, List.setIfInBounds_toArray, List.set_cons_zero, List.set_cons_succ]
          refine Rg.takeL (i := 5) (v := ?_) rfl (by kernel_rfl) (by kernel_rfl) (by kernel_rfl) (fun _ _ _ h => h) (Or.inl ⟨by rfl, ?_⟩) (by assumption) ?_
          rotate_left
          · (intro wz hSw; (try dsimp only at hSw); go_simp <;> with_reducible rfl)
          try simp only [Act.put, List.setIfInBounds_toArray, List.set_cons_zero, List.set_cons_succ]
          refine Rg.takeL (i := 6) (v := ?_) rfl (by kernel_rfl) (by kernel_rfl) (by kernel_rfl) (fun _ _ _ h => h) (Or.inl ⟨by rfl, ?_⟩) (by assumption) ?_
          rotate_left
          · (intro wz hSw; (try dsimp only at hSw); go_simp <;> with_reducible rfl)
          try simp only [Act.put, List.setIfInBounds_toArray, List.set_cons_zero, List.set_cons_succ]
          refine Rg.takeL (i := 7) (v := ?_) rfl (by kernel_rfl) (by kernel_rfl) (by kernel_rfl) (fun _ _ _ h => h) (Or.inl ⟨by rfl, ?_⟩) (by assumption) ?_
          rotate_left
          · (intro wz hSw; (have q0 := hSw.2.2.1; go_simp <;> with_reducible rfl))
          try simp only [Act.put, List.setIfInBounds_toArray, List.set_cons_zero, List.set_cons_succ]
          refine Rg.takeL (i := 8) (v := ?_) rfl (by kernel_rfl) (by kernel_rfl) (by kernel_rfl) (fun _ _ _ h => h) (Or.inl ⟨by rfl, ?_⟩) (by assumption) ?_
          rotate_left
          · (intro wz hSw; (try dsimp only at hSw); go_simp <;> with_reducible rfl)
          try simp only [Act.put, List.setIfInBounds_toArray, List.set_cons_zero, List.set_cons_succ]
          refine Rg.takeL (i := 9) (v := ?_) rfl (by kernel_rfl) (by kernel_rfl) (by kernel_rfl) (fun _ _ _ h => h) (Or.inl ⟨by rfl, ?_⟩) (by assumption) ?_
          rotate_left
          · (intro wz hSw; (try dsimp only at hSw); go_simp <;> with_reducible rfl)
          try simp only [Act.put, List.setIfInBounds_toArray, List.set_cons_zero, List.set_cons_succ]
          refine wpAnyH_ready (rs := [10]) (by kernel_rfl) (by simp) ?_
          refine Rg.readyL (i := 10) rfl (fun K hK => ?_)
          refine Rg.meetStore (by rfl) hHN 25 (ndC ⟨3, [], eB, ks⟩ a5 n5 c5) ⟨_, _, rfl, rfl, rfl⟩ (info_ndC _ _ _ _ hkl) (by rw [ndC_size _ _ _ _ rfl, ndC_size _ _ _ _ hkl]) (ndC_one _ _ _ _) ?_
          rintro wz hn hu
          have hx6 : BsF w.heap.size wz a5 n5 c5 [] := (hx5.upd hu (by omega)).weak (by omega)
          refine hK.out _ _ ?_ (fun hHeld => ?_)
          · exact ⟨hHeld.1.upd hu (by omega), (World.cell?_of_block (hu.block g (by omega))).trans hHeld.2.1, (World.cell?_of_block (hu.block g (by omega))).trans hHeld.2.2.1, hu.below hHeld.2.2.2 (Nat.le_refl _)⟩
          clear hK K hHN hx5
          try simp only [Act.put]
          refine Rg.takeL (i := 11) (v := ?_) rfl (by kernel_rfl) (by kernel_rfl) (by kernel_rfl) (fun _ _ _ h => h) (Or.inl ⟨by rfl, ?_⟩) (by assumption) ?_
          rotate_left
          · (intro wz hSw; (try dsimp only at hSw); go_simp <;> with_reducible rfl)
          try simp only [Act.put, List.setIfInBounds_toArray, List.set_cons_zero, List.set_cons_succ]
          refine wpAnyH_done (by kernel_rfl) ?_ _
          refine NoPanic.normal ?_
          go_wp2
          exact bodyPost_ret (res_nd1 rfl _ rfl hn hkl) rfl ⟨⟨3, [], eB, ks⟩, a5, n5, c5, true, rfl, .inl ⟨rfl, HF.out⟩, hx6, hkl, hHeld.2.2.2⟩
        · have hne := Ni.not_empty (s := y.s) (by omega)
          obtain ⟨T, hT⟩ : ∃ T, y.s = T := ⟨_, rfl⟩
          have HF : Hid (readBranchP xs = none) := Lib.hid (by rw [HB16.out, if_neg (fun e => hys e.2)])
          clear HB16
          rw [hT] at q1 hne hys
          obtain ⟨wl, hwl⟩ : ∃ wl, wl = wr.alloc (.cells #[.bool false, .string T, .slice A N C] 48) := ⟨_, rfl⟩
          have hbl : Below wr.heap.size wr wl := by rw [hwl]; exact al1 _ _
          have hcl : wr.heap.size < wl.heap.size := by rw [hwl]; simp
          have e0 : wl.cell? ⟨wr.heap.size, 0, none⟩ = some (.bool false) := by rw [hwl, World.cell?_alloc_mark]; rfl
          have e1 : wl.cell? ⟨wr.heap.size, 1, none⟩ = some (.string T) := by rw [hwl, World.cell?_alloc_mark]; rfl
          have HKl := Lib.hid (HK16.out.below hbl)
          have HNl := Lib.hid (HN.out.below hbl)
          have HBl := Lib.hid (below_step' HB.out hbl)
          clear hbl
          go_wp2_with fail
          rw [← hwl]
          clear hwl
          obtain ⟨g, hg⟩ : ∃ g, wr.heap.size = g := ⟨_, rfl⟩
          have hge : w.heap.size + 2 < g := by rw [← hg]; exact HK16.out.1
          rw [hg] at e0 e1 hcl ⊢
          clear hg
          have hON := HNl.out.drew
          have hw0 : w.heap.size < wl.drew.heap.size := HNl.out.1
          refine wp_region_noPanic ?_
          refine wp_region_held_drew (S := fun w' => Rg.Own w' (w.heap.size + 2) (kidC ks) 23 ∧ w'.cell? ⟨g, 0, none⟩ = some (.bool false) ∧ w'.cell? ⟨g, 1, none⟩ = some (.string T) ∧ Below w.heap.size w w') (by kernel_rfl) (⟨HKl.out.drew, e0, e1, HBl.out.drew⟩) (fun hHeld => ?_)
          refine Rg.takeL (i := 0) (v := ?_) rfl (by kernel_rfl) (by kernel_rfl) (by kernel_rfl) (fun _ _ _ h => h) (Or.inl ⟨by rfl, ?_⟩) (by assumption) ?_
          rotate_left
          · (intro wz hSw; (refine op_load_kc hSw.1 hkl ?_; exact ⟨_, rfl, rfl⟩))
          try simp only [Act.put, List.setIfInBounds_toArray, List.set_cons_zero, List.set_cons_succ]
          refine Rg.takeL (i := 2) (v := ?_) rfl (by kernel_rfl) (by kernel_rfl) (by kernel_rfl) (fun _ _ _ h => h) (Or.inl ⟨by rfl, ?_⟩) (by assumption) ?_
          rotate_left
          · (intro wz hSw; (try dsimp only at hSw); go_simp <;> with_reducible rfl)
          try simp only [Act.put, List.setIfInBounds_toArray, List.set_cons_zero, List.set_cons_succ]
          refine Rg.takeL (i := 3) (v := ?_) rfl (by kernel_rfl) (by kernel_rfl) (by kernel_rfl) (fun _ _ _ h => h) (Or.inl ⟨by rfl, ?_⟩) (by assumption) ?_
          rotate_left
          · (intro wz hSw; (have q0 := hSw.2.1; go_simp <;> with_reducible rfl))
          try simp only [Act.put, List.setIfInBounds_toArray, List.set_cons_zero, List.set_cons_succ]
          refine Rg.takeL (i := 4) (v := ?_) rfl (by kernel_rfl) (by kernel_rfl) (by kernel_rfl) (fun _ _ _ h => h) (Or.inl ⟨by rfl, ?_⟩) (by assumption) ?_
          rotate_left
          · (intro wz hSw; (try dsimp only at hSw); go_simp <;> with_reducible rfl)
          try simp only [Act.put, List.setIfInBounds_toArray, List.set_cons_zero, List.set_cons_succ]
          refine wpAnyH_ready (rs := [1]) (by kernel_rfl) (by simp) ?_
          refine Rg.readyL (i := 1) rfl (fun K hK => ?_)
          go_simp
          go_at_call 17
          (with_reducible refine (branch_any ks hkl _).mono ?_)
          rintro e wv0 ⟨a5, n5, c5, rfl, hx5, hl5, hbx⟩
          have hHN := hON.below hbx
          have hg0 : g < wl.drew.heap.size := World.block_lt_of_cell? _ _ hHeld.2.1
          refine hK.out _ _ ?_ (fun hHeld => ?_)
          · exact ⟨hHeld.1.below hbx, (Below.cell (p := ⟨g, 0, none⟩) hbx hg0).trans hHeld.2.1, (Below.cell (p := ⟨g, 1, none⟩) hbx hg0).trans hHeld.2.2.1, below_step' hHeld.2.2.2 hbx⟩
          clear hK K hbx hON
          try simp only [Act.put, List.setIfInBounds_toArray, List.set_cons_zero, List.set_cons_succ]
          refine Rg.takeL (i := 5) (v := ?_) rfl (by kernel_rfl) (by kernel_rfl) (by kernel_rfl) (fun _ _ _ h => h) (Or.inl ⟨by rfl, ?_⟩) (by assumption) ?_
          rotate_left
          · (intro wz hSw; (try dsimp only at hSw); go_simp <;> with_reducible rfl)
          try simp only [Act.put, List.setIfInBounds_toArray, List.set_cons_zero, List.set_cons_succ]
          refine Rg.takeL (i := 6) (v := ?_) rfl (by kernel_rfl) (by kernel_rfl) (by kernel_rfl) (fun _ _ _ h => h) (Or.inl ⟨by rfl, ?_⟩) (by assumption) ?_
          rotate_left
          · (intro wz hSw; (try dsimp only at hSw); go_simp <;> with_reducible rfl)
          try simp only [Act.put, List.setIfInBounds_toArray, List.set_cons_zero, List.set_cons_succ]
          refine Rg.takeL (i := 7) (v := ?_) rfl (by kernel_rfl) (by kernel_rfl) (by kernel_rfl) (fun _ _ _ h => h) (Or.inl ⟨by rfl, ?_⟩) (by assumption) ?_
          rotate_left
          · (intro wz hSw; (have q0 := hSw.2.2.1; go_simp <;> with_reducible rfl))
          try simp only [Act.put, List.setIfInBounds_toArray, List.set_cons_zero, List.set_cons_succ]
          refine Rg.takeL (i := 8) (v := ?_) rfl (by kernel_rfl) (by kernel_rfl) (by kernel_rfl) (fun _ _ _ h => h) (Or.inl ⟨by rfl, ?_⟩) (by assumption) ?_
          rotate_left
          · (intro wz hSw; (try dsimp only at hSw); go_simp <;> with_reducible rfl)
          try simp only [Act.put, List.setIfInBounds_toArray, List.set_cons_zero, List.set_cons_succ]
          refine Rg.takeL (i := 9) (v := ?_) rfl (by kernel_rfl) (by kernel_rfl) (by kernel_rfl) (fun _ _ _ h => h) (Or.inl ⟨by rfl, ?_⟩) (by assumption) ?_
          rotate_left
          · (intro wz hSw; (try dsimp only at hSw); go_simp <;> with_reducible rfl)
          try simp only [Act.put, List.setIfInBounds_toArray, List.set_cons_zero, List.set_cons_succ]
          refine wpAnyH_ready (rs := [10]) (by kernel_rfl) (by simp) ?_
          refine Rg.readyL (i := 10) rfl (fun K hK => ?_)
          refine Rg.meetStore (by rfl) hHN 25 (ndC ⟨3, [], eB, ks⟩ a5 n5 c5) ⟨_, _, rfl, rfl, rfl⟩ (info_ndC _ _ _ _ hkl) (by rw [ndC_size _ _ _ _ rfl, ndC_size _ _ _ _ hkl]) (ndC_one _ _ _ _) ?_
          rintro wz hn hu
          have hx6 : BsF w.heap.size wz a5 n5 c5 [] := (hx5.upd hu (by omega)).weak (by omega)
          refine hK.out _ _ ?_ (fun hHeld => ?_)
          · exact ⟨hHeld.1.upd hu (by omega), (World.cell?_of_block (hu.block g (by omega))).trans hHeld.2.1, (World.cell?_of_block (hu.block g (by omega))).trans hHeld.2.2.1, hu.below hHeld.2.2.2 (Nat.le_refl _)⟩
          clear hK K hHN hx5
          try simp only [Act.put]
          refine Rg.takeL (i := 11) (v := ?_) rfl (by kernel_rfl) (by kernel_rfl) (by kernel_rfl) (fun _ _ _ h => h) (Or.inl ⟨by rfl, ?_⟩) (by assumption) ?_
          rotate_left
          · (intro wz hSw; (try dsimp only at hSw); go_simp <;> with_reducible rfl)
          try simp only [Act.put, List.setIfInBounds_toArray, List.set_cons_zero, List.set_cons_succ]
          refine wpAnyH_done (by kernel_rfl) ?_ _
          refine NoPanic.normal ?_
          go_wp2
          exact bodyPost_ret (res_nd1 rfl _ rfl hn hkl) rfl ⟨⟨3, [], eB, ks⟩, a5, n5, c5, false, rfl, .inr ⟨rfl, HF.out⟩, hx6, hkl, hHeld.2.2.2⟩

set_option maxHeartbeats 4000000 in
theorem read_none (xs : List It) (a : Option Addr) (n cap : Nat) (w : World) (h : IsIts w xs a n cap) (h2 : xs.length ≠ 2) (h17 : xs.length ≠ 17) :
    Calls Try.prog 30 #[.slice a n cap] w (ReadPost w (readP xs)) := by
  have hR : readP xs = none := by unfold readP; rw [if_neg h2, if_neg h17]
  rw [hR]
  have hm := h.max
  have hnc := h.le
  have hl := h.len
  unfold maxLen at hm
  have d2 : decide ((n : Int) = 2) = false := by simp; omega
  have d17 : decide ((n : Int) = 17) = false := by simp; omega
  have d2' : ((n : Int) == 2) = false := by simp; omega
  have d17' : ((n : Int) == 17) = false := by simp; omega
  obtain ⟨w2, hw2⟩ : ∃ w2, w2 = w.alloc (.cells (ndC nd0 none 0 0) 25) := ⟨_, rfl⟩
  have hO : OwnN w2 w.heap.size nd0 none 0 0 := by rw [hw2]; exact Rg.Own.new _ _ _
  have HB2 : Hid (Below w.heap.size w w2) := Lib.hid (by rw [hw2]; exact al1 _ _)
  have HO := Lib.hid hO
  clear h hO hR h2 h17 hl
  subst hw2
  go_enter Try.func30, Try.ntmps30
  go_wp2_with (first
    | (refine Rg.run rfl _ _ (run_alloc_nd _ _ _ w.heap.size rfl rfl) ?_)
    | (refine Rg.run rfl _ _ (op_build built0 ?_) ?_; · exact ⟨_, rfl, rfl⟩)
    | (refine wpl_store_nd HO.out rfl nd0 none 0 0 rfl rfl _ _ rfl rfl rfl rfl ?_))
  exact bodyPost_ret (res_nd1 rfl _ rfl (own_rowN HO.out) rfl) rfl ⟨nd0, none, 0, 0, false, rfl, .inr ⟨rfl, rfl⟩, BsF.nil _ _, rfl, below_rowN HB2.out (Nat.le_refl _) _⟩
set_option maxHeartbeats 4000000 in
theorem read_any (xs : List It) (a : Option Addr) (n cap : Nat) (w : World) (h : IsIts w xs a n cap) (hG : ∀ x ∈ xs, Good x) :
    Calls Try.prog 30 #[.slice a n cap] w (ReadPost w (readP xs)) := by
  by_cases h2 : xs.length = 2
  · have hP : ∀ w, IsIts w xs a n cap → Calls Try.prog 54 #[.slice a n cap] w (ReadPost w (readP xs)) := fun w h => by
      by_cases hbad : (xs.getD 0 it0).s.size = 0 ∨ Bad (xs.getD 0 it0).s
      · exact readPath_bad xs a n cap w h h2 hG hbad
      · exact readPath_ok xs a n cap w h h2 hG hbad
    have hl := h.len
    obtain rfl : n = 2 := by omega
    obtain ⟨w2, hw2⟩ : ∃ w2, w2 = w.alloc (.cells (ndC nd0 none 0 0) 25) := ⟨_, rfl⟩
    have hO : OwnN w2 w.heap.size nd0 none 0 0 := by rw [hw2]; exact Rg.Own.new _ _ _
    have hB2 : Below w.heap.size w w2 := by rw [hw2]; exact al1 _ _
    have HB2 := Lib.hid hB2
    have HP := Lib.hid (hP w2 (h.stays hB2))
    have HO := Lib.hid hO
    obtain ⟨R, hR⟩ : ∃ R, readP xs = R := ⟨_, rfl⟩
    rw [hR] at HP ⊢
    clear h hO hB2 hP hR hG hl h2
    subst hw2
    go_enter Try.func30, Try.ntmps30
    go_wp2_with (refine Rg.run rfl _ _ (run_alloc_nd _ _ _ w.heap.size rfl rfl) ?_)
    refine HP.out.mono ?_
    rintro e w3 ⟨N, a3, n3, c3, b3, rfl, hr3, hx3, hl3, hb3⟩
    have HO3 := Lib.hid (HO.out.below hb3)
    have HB3 := Lib.hid (below_step' HB2.out hb3)
    have HX3 := Lib.hid hx3
    have HL3 := Lib.hid hl3
    have HR3 := Lib.hid hr3
    clear hb3 hx3 hl3 hr3 HP
    go_wp2_with (refine wpl_store_nd HO3.out rfl N a3 n3 c3 HL3.out rfl _ _ rfl rfl rfl rfl ?_)
    exact bodyPost_ret (res_nd1 rfl _ rfl (own_rowN HO3.out) HL3.out) rfl ⟨N, a3, n3, c3, b3, rfl, HR3.out, (HX3.out.row (by simp) _).weak (by simp), HL3.out, below_rowN HB3.out (Nat.le_refl _) _⟩
  · by_cases h17 : xs.length = 17
    · have hP : ∀ w, IsIts w xs a n cap → Calls Try.prog 55 #[.slice a n cap] w (ReadPost w (readP xs)) := fun w h => readBranch_any xs a n cap w h h17 hG
      have hl := h.len
      obtain rfl : n = 17 := by omega
      obtain ⟨w2, hw2⟩ : ∃ w2, w2 = w.alloc (.cells (ndC nd0 none 0 0) 25) := ⟨_, rfl⟩
      have hO : OwnN w2 w.heap.size nd0 none 0 0 := by rw [hw2]; exact Rg.Own.new _ _ _
      have hB2 : Below w.heap.size w w2 := by rw [hw2]; exact al1 _ _
      have HB2 := Lib.hid hB2
      have HP := Lib.hid (hP w2 (h.stays hB2))
      have HO := Lib.hid hO
      obtain ⟨R, hR⟩ : ∃ R, readP xs = R := ⟨_, rfl⟩
      rw [hR] at HP ⊢
      clear h hO hB2 hP hR hG hl h2 h17
      subst hw2
      go_enter Try.func30, Try.ntmps30
      go_wp2_with (refine Rg.run rfl _ _ (run_alloc_nd _ _ _ w.heap.size rfl rfl) ?_)
      refine HP.out.mono ?_
      rintro e w3 ⟨N, a3, n3, c3, b3, rfl, hr3, hx3, hl3, hb3⟩
      have HO3 := Lib.hid (HO.out.below hb3)
      have HB3 := Lib.hid (below_step' HB2.out hb3)
      have HX3 := Lib.hid hx3
      have HL3 := Lib.hid hl3
      have HR3 := Lib.hid hr3
      clear hb3 hx3 hl3 hr3 HP
      go_wp2_with (refine wpl_store_nd HO3.out rfl N a3 n3 c3 HL3.out rfl _ _ rfl rfl rfl rfl ?_)
      exact bodyPost_ret (res_nd1 rfl _ rfl (own_rowN HO3.out) HL3.out) rfl ⟨N, a3, n3, c3, b3, rfl, HR3.out, (HX3.out.row (by simp) _).weak (by simp), HL3.out, below_rowN HB3.out (Nat.le_refl _) _⟩
    · exact read_none xs a n cap w h h2 h17
end No
end Go.Proofs.Ytbdhncaiffepoaa
