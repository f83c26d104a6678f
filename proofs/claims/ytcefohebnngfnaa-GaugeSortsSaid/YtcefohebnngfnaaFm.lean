/-
  What the four operations on numbers give: no number of what is none; a number else; shares lie between 0 and 1; numbers and lists alone.
-/
import Derived.Test.YtcefohebnngfnaaFl
namespace Go.Proofs.Ytcefohebnngfnaa
namespace Fl
open Ieee

theorem rung_word (s : Bool) (r : Nat) (h : r ≤ inf) : rung (double.word s r) = r ∧ double.word s r < 18446744073709551616 := by
  have hs : sgn = 9223372036854775808 := rfl
  have hi : inf = 9218868437227405312 := rfl
  unfold Format.word rung
  rw [d_sign]
  cases s
  · simp only [Bool.false_eq_true, if_false]
    rw [if_pos (by omega)]; exact ⟨rfl, by omega⟩
  · simp only [if_true]
    rw [if_neg (by omega)]; exact ⟨by omega, by omega⟩
theorem write_rung (s : Bool) (m : Nat) (p : Int) : ∃ r, r ≤ inf ∧ double.write (.number s m p) = double.word s r := by
  show ∃ r, r ≤ inf ∧ double.nearest s m p = _
  unfold Format.nearest
  split
  · exact ⟨0, Nat.zero_le _, rfl⟩
  · rw [d_inf]
    exact ⟨_, Nat.min_le_right _ _, rfl⟩
theorem write_num (d : Datum) (h : d.isNaN = false) : nan (double.write d) = false ∧ double.write d < 18446744073709551616 := by
  cases d with
  | number s m p =>
    obtain ⟨r, hr, e⟩ := write_rung s m p
    rw [e]
    have := rung_word s r hr
    refine ⟨?_, this.2⟩
    unfold nan; rw [this.1]; simp; omega
  | infinity s =>
    show nan (double.word s double.infRung) = false ∧ double.word s double.infRung < _
    rw [d_inf]
    have := rung_word s inf (Nat.le_refl _)
    refine ⟨?_, this.2⟩
    unfold nan; rw [this.1]; simp
  | nan s f => cases h

theorem sum_num {a b d : Datum} (h : a.sum b = some d) : d.isNaN = false := by
  unfold Datum.sum at h
  split at h
  · cases h
  · cases h
  · split at h
    · cases h; rfl
    · cases h
  · cases h; rfl
  · cases h; rfl
  · cases h; rfl
theorem product_num {a b d : Datum} (h : a.product b = some d) : d.isNaN = false := by
  unfold Datum.product at h
  split at h
  · cases h
  · cases h
  · cases h; rfl
  · split at h
    · cases h
    · cases h; rfl
  · split at h
    · cases h
    · cases h; rfl
  · cases h; rfl
theorem quotient_num {n : Nat} {a b d : Datum} (h : a.quotient n b = some d) : d.isNaN = false := by
  unfold Datum.quotient at h
  split at h
  · cases h
  · cases h
  · cases h
  · cases h; rfl
  · cases h; rfl
  · split at h
    · split at h
      · cases h
      · cases h; rfl
    · cases h; rfl

/-- one of the four operations -/
def four (op : BinOp) : Bool := match op with | .add | .sub | .mul | .quo => true | _ => false

theorem num_of_bits {op : BinOp} {x y r : Nat} (h : floatBits op .f64 x y = some r) : nan r = false ∧ r < 18446744073709551616 := by
  unfold floatBits at h
  have key : ∀ {o : Option Datum}, (∀ d, o = some d → d.isNaN = false) → o.map double.write = some r → nan r = false ∧ r < 18446744073709551616 := by
    intro o ho hm
    cases o with
    | none => cases hm
    | some d => cases hm; exact write_num d (ho d rfl)
  split at h
  · exact key (fun d => sum_num) h
  · exact key (fun d => sum_num) h
  · exact key (fun d => product_num) h
  · exact key (fun d => quotient_num) h
  · cases h

theorem read_nan {x : Nat} (h : x < 18446744073709551616) (hn : nan x = true) : ∃ s f, double.read x = .nan s f := by
  unfold nan at hn
  have hn : inf < rung x := of_decide_eq_true hn
  rw [read_eq x h, if_neg (by omega), if_neg (by omega)]
  exact ⟨_, _, rfl⟩
theorem none_left (op : BinOp) {x y : Nat} (hx : x < 18446744073709551616) (h : nan x = true) : floatBits op .f64 x y = none := by
  obtain ⟨s, f, e⟩ := read_nan hx h
  unfold floatBits
  split
  · show (((double.read x).sum (double.read y)).map double.write) = none
    rw [e]; rfl
  · show (((double.read x).sum (double.read y).opposite).map double.write) = none
    rw [e]; rfl
  · show (((double.read x).product (double.read y)).map double.write) = none
    rw [e]; rfl
  · show (((double.read x).quotient (double.fractionBits + 2) (double.read y)).map double.write) = none
    rw [e]; rfl
  · rfl
theorem none_right (op : BinOp) {x y : Nat} (hy : y < 18446744073709551616) (h : nan y = true) : floatBits op .f64 x y = none := by
  obtain ⟨s, f, e⟩ := read_nan hy h
  unfold floatBits
  split
  · show (((double.read x).sum (double.read y)).map double.write) = none
    rw [e]; cases double.read x <;> rfl
  · show (((double.read x).sum (double.read y).opposite).map double.write) = none
    rw [e]; cases double.read x <;> rfl
  · show (((double.read x).product (double.read y)).map double.write) = none
    rw [e]; cases double.read x <;> rfl
  · show (((double.read x).quotient (double.fractionBits + 2) (double.read y)).map double.write) = none
    rw [e]; cases double.read x <;> rfl
  · rfl

/-- a word that an answer is: that number, or no number -/
def Rep (o : Option Nat) (v : Nat) : Prop := v < 18446744073709551616 ∧ match o with
  | some r => v = r ∧ nan r = false
  | none => nan v = true
/-- the same numbers, or both none -/
def Like (a b : Nat) : Prop := a < 18446744073709551616 ∧ b < 18446744073709551616 ∧ ((nan a = true ∧ nan b = true) ∨ (nan a = false ∧ nan b = false ∧ sr a = sr b))
theorem Rep.like {o : Option Nat} {a b : Nat} (ha : Rep o a) (hb : Rep o b) : Like a b := by
  obtain ⟨a1, a2⟩ := ha
  obtain ⟨b1, b2⟩ := hb
  cases o with
  | none => exact ⟨a1, b1, .inl ⟨a2, b2⟩⟩
  | some r => obtain ⟨rfl, h⟩ := a2; obtain ⟨rfl, _⟩ := b2; exact ⟨a1, b1, .inr ⟨h, h, rfl⟩⟩
theorem Rep.num {x : Nat} (h : x < 18446744073709551616) (hn : nan x = false) : Rep (some x) x := ⟨h, rfl, hn⟩

theorem nan_rung {x : Nat} : nan x = false ↔ rung x ≤ inf := by unfold nan; simp
theorem rung_pos {x : Nat} (h : x < sgn) : rung x = x ∧ isNeg x = false ∧ sr x = x := by
  unfold rung isNeg sr; rw [if_pos h, if_pos h]; exact ⟨rfl, by simp; omega, rfl⟩

/-- a number less itself -/
theorem sub_self {x : Nat} (h : x < 18446744073709551616) (hf : rung x < inf) : floatBits .sub .f64 x x = some 0 := by
  show (((double.read x).sum (double.read x).opposite).map double.write) = some 0
  rw [read_eq x h, if_pos hf]
  generalize isNeg x = s
  generalize mg (rung x) = m
  generalize (-1074 + (up (rung x) : Nat) : Int) = p
  have e : (Datum.number s m p).sum (Datum.number s m p).opposite = some (.number false 0 p) := by
    show Datum.sum (.number s m p) (.number (!s) m p) = _
    unfold Datum.sum
    simp only [signed_eq]
    cases s <;> simp <;> omega
  rw [e]
  rfl
theorem sub_self_inf {x : Nat} (h : x < 18446744073709551616) (hf : rung x = inf) : floatBits .sub .f64 x x = none := by
  show (((double.read x).sum (double.read x).opposite).map double.write) = none
  rw [read_eq x h, if_neg (by omega), if_pos hf]
  generalize isNeg x = s
  cases s <;> rfl

/-- WHAT IS NO MORE THAN 1 IS ROUNDED TO NO MORE THAN 1. -/
theorem nearest_le_one (m : Nat) (p : Int) (h : m = 0 ∨ (p ≤ 0 ∧ m ≤ 2 ^ (-p).toNat)) : ∃ r, r ≤ one ∧ double.nearest false m p = r := by
  have hi : inf = 9218868437227405312 := rfl
  have ho : one = 4607182418800017408 := rfl
  have hb : bin = 4503599627370496 := rfl
  by_cases hm : m = 0
  · subst hm; exact ⟨0, Nat.zero_le _, rfl⟩
  · obtain ⟨hp, hle⟩ := h.resolve_left hm
    unfold Format.nearest
    rw [if_neg hm, d_least, d_bin, d_inf]
    have hfr : (double.fractionBits : Int) = 52 := rfl
    rw [hfr]
    simp only [Format.word, Bool.false_eq_true, if_false]
    refine ⟨_, ?_, rfl⟩
    refine Nat.le_trans (Nat.min_le_left _ _) ?_
    obtain ⟨q, rfl⟩ : ∃ q : Nat, p = -(q : Int) := ⟨(-p).toNat, by omega⟩
    have e0 : (-(-(q : Int))).toNat = q := by omega
    rw [e0] at hle
    have l1 : 2 ^ m.log2 ≤ m := Nat.log2_self_le hm
    have l2 : m < 2 ^ (m.log2 + 1) := Nat.lt_log2_self
    have lq : m.log2 ≤ q := by
      have : 2 ^ m.log2 ≤ 2 ^ q := Nat.le_trans l1 hle
      exact (Nat.pow_le_pow_iff_right (by omega)).1 this
    generalize hk : m.log2 = k at l1 l2 lq
    -- the number kept has at most 53 digits, or one and noughts
    have cut_le : ∀ (n drop t : Nat), n ≤ 2 ^ (t + drop) → n ≠ 0 → drop ≤ n.log2 + 2 → Toward.even.cut false n drop ≤ 2 ^ t := by
      intro n drop t hn h0 hd
      unfold Toward.cut
      have eg : 1 <<< min drop (n.log2 + 2) = 2 ^ drop := by rw [Nat.min_eq_left hd, shl, Nat.one_mul]
      simp only [eg]
      have gp : 0 < 2 ^ drop := Nat.two_pow_pos _
      by_cases heq : n = 2 ^ (t + drop)
      · subst heq
        rw [Nat.pow_add, Nat.mul_mod_left, Nat.mul_div_cancel _ gp]
        have : ((decide (2 ^ drop < 2 * 0) || (2 ^ drop == 2 * 0 && 2 ^ t % 2 == 1)) : Bool) = false := by
          simp
        rw [this]; simp
      · have hlt : n < 2 ^ (t + drop) := by omega
        have : n / 2 ^ drop < 2 ^ t := by rw [Nat.div_lt_iff_lt_mul gp, ← Nat.pow_add]; exact hlt
        generalize ((decide (2 ^ drop < 2 * (n % 2 ^ drop)) || (2 ^ drop == 2 * (n % 2 ^ drop) && n / 2 ^ drop % 2 == 1)) : Bool) = more
        cases more <;> simp [Bool.toNat] <;> omega
    by_cases hkq : k = q
    · -- just 1
      have hm1 : m = 2 ^ q := by rw [hkq] at l1; omega
      have el : max (-(q : Int) + (k : Int) - 52) (-1074) = -52 := by omega
      rw [el]
      have e1 : ((-52 : Int) - -1074).toNat = 1022 := by decide
      rw [e1]
      have hkept : Toward.even.cut false (m <<< (-(q : Int) - -52).toNat) (-52 - -(q : Int)).toNat ≤ 2 ^ 52 := by
        refine cut_le _ _ 52 ?_ ?_ ?_
        · rw [shl, hm1, ← Nat.pow_add]; exact Nat.pow_le_pow_right (by omega) (by omega)
        · rw [shl]; exact Nat.ne_of_gt (Nat.mul_pos (by omega) (Nat.two_pow_pos _))
        · rw [shl, hm1, ← Nat.pow_add, Nat.log2_two_pow]; omega
      have e52 : (2 : Nat) ^ 52 = 4503599627370496 := by decide +kernel
      rw [e52] at hkept
      rw [hb, ho]
      omega
    · have hkl : k < q := by omega
      generalize hL : max (-(q : Int) + (k : Int) - 52) (-1074) = last
      have b1 : last ≤ -53 := by omega
      have b2 : -1074 ≤ last := by omega
      have b3 : -(q : Int) + (k : Int) - 52 ≤ last := by omega
      have hkept : Toward.even.cut false (m <<< (-(q : Int) - last).toNat) (last - -(q : Int)).toNat ≤ 2 ^ 53 := by
        by_cases hdir : -(q : Int) ≤ last
        · have : (-(q : Int) - last).toNat = 0 := by omega
          rw [this, shl, Nat.pow_zero, Nat.mul_one]
          by_cases hd : (last - -(q : Int)).toNat ≤ m.log2 + 2
          · refine cut_le _ _ 53 ?_ hm hd
            refine Nat.le_trans (Nat.le_of_lt l2) (Nat.pow_le_pow_right (by omega) (by omega))
          · -- all is dropped
            unfold Toward.cut
            have eg : 1 <<< min (last - -(q : Int)).toNat (m.log2 + 2) = 2 ^ (m.log2 + 2) := by rw [Nat.min_eq_right (by omega), shl, Nat.one_mul]
            simp only [eg]
            have : m / 2 ^ (m.log2 + 2) = 0 := Nat.div_eq_of_lt (Nat.lt_trans l2 (Nat.pow_lt_pow_right (by omega) (by omega)))
            rw [this]
            have e53 : (2 : Nat) ^ 53 = 9007199254740992 := by decide +kernel
            rw [e53]
            generalize ((decide (2 ^ (m.log2 + 2) < 2 * (m % 2 ^ (m.log2 + 2))) || (2 ^ (m.log2 + 2) == 2 * (m % 2 ^ (m.log2 + 2)) && 0 % 2 == 1)) : Bool) = more
            cases more <;> simp [Bool.toNat]
        · have e1 : (last - -(q : Int)).toNat = 0 := by omega
          rw [e1]
          refine cut_le _ 0 53 ?_ ?_ (by omega)
          · rw [shl, Nat.add_zero]
            have : m * 2 ^ (-(q : Int) - last).toNat ≤ 2 ^ (k + 1) * 2 ^ (-(q : Int) - last).toNat := Nat.mul_le_mul_right _ (Nat.le_of_lt l2)
            refine Nat.le_trans this ?_
            rw [← Nat.pow_add]; exact Nat.pow_le_pow_right (by omega) (by omega)
          · rw [shl]; exact Nat.ne_of_gt (Nat.mul_pos (by omega) (Nat.two_pow_pos _))
      have e53 : (2 : Nat) ^ 53 = 9007199254740992 := by decide +kernel
      rw [e53] at hkept
      rw [hb, ho]
      omega

/-- the quotient of two rungs, the second one a number above 0 -/
theorem div_rungs (x y : Nat) (hx : x < inf) (hy0 : 0 < y) (hy : y < inf) : ∃ r, floatBits .quo .f64 x y = some r ∧ r ≤ inf ∧ (x ≤ y → r ≤ one) := by
  have hi : inf = 9218868437227405312 := rfl
  have hs : sgn = 9223372036854775808 := rfl
  have rx := rung_pos (x := x) (by omega)
  have ry := rung_pos (x := y) (by omega)
  have mpos : mg y ≠ 0 := by
    intro h
    have : val y = 0 := by unfold val; rw [h]; simp
    have := val_lt hy0
    omega
  have mx : (mg x).log2 ≤ 53 := by
    by_cases h0 : mg x = 0
    · rw [h0]; decide
    · have : mg x < 2 ^ 54 := by
        have e54 : (2 : Nat) ^ 54 = 18014398509481984 := by decide +kernel
        have hb : bin = 4503599627370496 := rfl
        rw [e54]; unfold mg; split
        · omega
        · have : x % bin < bin := Nat.mod_lt _ (by omega)
          omega
      have := (Nat.log2_lt h0).2 this
      omega
  have key : ∃ r, r ≤ inf ∧ (x ≤ y → r ≤ one) ∧ ((Datum.number false (mg x) (-1074 + (up x : Nat))).quotient (double.fractionBits + 2) (.number false (mg y) (-1074 + (up y : Nat)))).map double.write = some r := by
    show ∃ r, r ≤ inf ∧ (x ≤ y → r ≤ one) ∧ (Datum.quotient 54 (Datum.number false (mg x) (-1074 + (up x : Nat))) (.number false (mg y) (-1074 + (up y : Nat)))).map double.write = some r
    unfold Datum.quotient
    simp only [if_neg mpos]
    obtain ⟨w, hw⟩ : ∃ w, 54 + (mg y).log2 - (mg x).log2 = w := ⟨_, rfl⟩
    rw [hw, shl]
    by_cases hle : x ≤ y
    · have hm : (2 * (mg x * 2 ^ w / mg y) + (mg x * 2 ^ w % mg y != 0).toNat) = 0 ∨ ((-1074 + (up x : Nat) : Int) - (-1074 + (up y : Nat)) - (w : Nat) - 1 ≤ 0 ∧ 2 * (mg x * 2 ^ w / mg y) + (mg x * 2 ^ w % mg y != 0).toNat ≤ 2 ^ (-((-1074 + (up x : Nat) : Int) - (-1074 + (up y : Nat)) - (w : Nat) - 1)).toNat) := by
        by_cases h0 : mg x = 0
        · left; rw [h0]; simp
        · right
          have hval : mg x * 2 ^ up x ≤ mg y * 2 ^ up y := by
            show val x ≤ val y
            by_cases e : x = y
            · rw [e]; exact Nat.le_refl _
            · exact Nat.le_of_lt (val_lt (by omega))
          -- the quotient has digits enough
          have lx2 : mg x < 2 ^ ((mg x).log2 + 1) := Nat.lt_log2_self
          have lx1 : 2 ^ (mg x).log2 ≤ mg x := Nat.log2_self_le h0
          have ly2 : mg y < 2 ^ ((mg y).log2 + 1) := Nat.lt_log2_self
          have hux : up x ≤ up y + w := by
            rcases Nat.lt_or_ge (up y + w) (up x) with hc | hc
            · exfalso
              have s1 : 2 ^ (mg x).log2 * 2 ^ up x ≤ mg x * 2 ^ up x := Nat.mul_le_mul_right _ lx1
              have s2 : mg y * 2 ^ up y < 2 ^ ((mg y).log2 + 1) * 2 ^ up y := Nat.mul_lt_mul_of_pos_right ly2 (Nat.two_pow_pos _)
              rw [← Nat.pow_add] at s1 s2
              have s3 : 2 ^ ((mg y).log2 + 1 + up y) ≤ 2 ^ ((mg x).log2 + up x) := Nat.pow_le_pow_right (by omega) (by omega)
              omega
            · exact hc
          refine ⟨by omega, ?_⟩
          have ee : (-((-1074 + (up x : Nat) : Int) - (-1074 + (up y : Nat)) - (w : Nat) - 1)).toNat = (up y + w - up x) + 1 := by omega
          rw [ee]
          have hmul : mg x * 2 ^ w ≤ mg y * 2 ^ (up y + w - up x) := by
            have h1 : mg x * 2 ^ w * 2 ^ up x ≤ mg y * 2 ^ (up y + w - up x) * 2 ^ up x := by
              rw [Nat.mul_assoc, Nat.mul_assoc, ← Nat.pow_add, ← Nat.pow_add]
              have e1 : w + up x = up x + w := by omega
              have e2 : up y + w - up x + up x = up y + w := by omega
              rw [e1, e2, Nat.pow_add, Nat.pow_add, ← Nat.mul_assoc, ← Nat.mul_assoc]
              exact Nat.mul_le_mul_right _ hval
            exact Nat.le_of_mul_le_mul_right h1 (Nat.two_pow_pos _)
          have mp : 0 < mg y := by omega
          have hd := Nat.div_add_mod (mg x * 2 ^ w) (mg y)
          have hml := Nat.mod_lt (mg x * 2 ^ w) mp
          rw [Nat.pow_succ]
          generalize mg x * 2 ^ w = n at hmul hd hml ⊢
          generalize 2 ^ (up y + w - up x) = t at hmul ⊢
          by_cases hr : n % mg y = 0
          · rw [hr]
            have : n / mg y ≤ t := by
              have : n ≤ mg y * t := hmul
              exact Nat.div_le_of_le_mul this
            simp; omega
          · have : n / mg y < t := by
              rw [Nat.div_lt_iff_lt_mul mp]
              rw [Nat.mul_comm]
              rcases Nat.lt_or_ge n (mg y * t) with hc | hc
              · exact hc
              · exfalso; have : n = mg y * t := by omega
                rw [this] at hr; simp at hr
            have e1 : (n % mg y != 0).toNat = 1 := by simp [hr]
            rw [e1]; omega
      obtain ⟨r, hr, e⟩ := nearest_le_one _ _ hm
      refine ⟨r, ?_, fun _ => hr, ?_⟩
      · have : one = 4607182418800017408 := rfl
        omega
      · exact congrArg some e
    · obtain ⟨r, hr, e⟩ := write_rung false (2 * (mg x * 2 ^ w / mg y) + (mg x * 2 ^ w % mg y != 0).toNat) ((-1074 + (up x : Nat) : Int) - (-1074 + (up y : Nat)) - (w : Nat) - 1)
      exact ⟨r, hr, fun h => absurd h hle, congrArg some e⟩
  obtain ⟨r, h1, h2, h3⟩ := key
  refine ⟨r, ?_, h1, h2⟩
  show (((double.read x).quotient (double.fractionBits + 2) (double.read y)).map double.write) = some r
  rw [read_eq x (by omega), read_eq y (by omega), rx.1, rx.2.1, ry.1, ry.2.1, if_pos hx, if_pos hy]
  exact h3

theorem div_inf (y : Nat) (hy : y < inf) : floatBits .quo .f64 inf y = some inf := by
  have hi : inf = 9218868437227405312 := rfl
  have hs : sgn = 9223372036854775808 := rfl
  have ry := rung_pos (x := y) (by omega)
  show (((double.read inf).quotient (double.fractionBits + 2) (double.read y)).map double.write) = some inf
  rw [read_eq y (by omega), ry.1, ry.2.1, if_pos hy]
  rfl
/-- a number above 0 by nothing -/
theorem div_zero (x : Nat) (h0 : 0 < x) (hx : x ≤ inf) : floatBits .quo .f64 x 0 = some inf := by
  have hi : inf = 9218868437227405312 := rfl
  have hs : sgn = 9223372036854775808 := rfl
  by_cases e : x = inf
  · subst e; exact div_inf 0 (by omega)
  · have rx := rung_pos (x := x) (by omega)
    have mpos : mg x ≠ 0 := by
      intro h
      have : val x = 0 := by unfold val; rw [h]; simp
      have := val_lt h0
      omega
    show (((double.read x).quotient (double.fractionBits + 2) (double.read 0)).map double.write) = some inf
    rw [read_eq x (by omega), rx.1, rx.2.1, if_pos (by omega)]
    have e0 : double.read 0 = .number false 0 (-1074) := by decide +kernel
    rw [e0]
    unfold Datum.quotient
    simp only [if_neg mpos, if_true]
    rfl
/-- -0 by a number above 0 -/
theorem div_neg0 (y : Nat) (h0 : 0 < y) (hy : y < inf) : floatBits .quo .f64 sgn y = some sgn ∧ floatBits .quo .f64 0 y = some 0 := by
  have hi : inf = 9218868437227405312 := rfl
  have hs : sgn = 9223372036854775808 := rfl
  have ry := rung_pos (x := y) (by omega)
  have mpos : mg y ≠ 0 := by
    intro h
    have : val y = 0 := by unfold val; rw [h]; simp
    have := val_lt h0
    omega
  constructor
  · show (((double.read sgn).quotient (double.fractionBits + 2) (double.read y)).map double.write) = some sgn
    have e0 : double.read sgn = .number true 0 (-1074) := by decide +kernel
    rw [e0, read_eq y (by omega), ry.1, ry.2.1, if_pos hy]
    unfold Datum.quotient
    simp only [if_neg mpos, Nat.zero_shiftLeft, Nat.zero_div, Nat.zero_mod]
    show some (double.nearest true 0 _) = some sgn
    unfold Format.nearest
    simp only [if_true]
    decide +kernel
  · show (((double.read 0).quotient (double.fractionBits + 2) (double.read y)).map double.write) = some 0
    have e0 : double.read 0 = .number false 0 (-1074) := by decide +kernel
    rw [e0, read_eq y (by omega), ry.1, ry.2.1, if_pos hy]
    unfold Datum.quotient
    simp only [if_neg mpos, Nat.zero_shiftLeft, Nat.zero_div, Nat.zero_mod]
    show some (double.nearest false 0 _) = some 0
    unfold Format.nearest
    simp only [if_true]
    decide +kernel

end Fl
end Go.Proofs.Ytcefohebnngfnaa
