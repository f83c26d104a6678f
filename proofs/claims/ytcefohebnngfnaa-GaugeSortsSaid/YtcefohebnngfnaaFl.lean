/-
  Numbers with a point as words: what their order is (that of signed rungs), and what the four operations give; numbers and lists alone.
-/
import Derived.Laws.FloatArith
import Derived.Laws.FloatBits
namespace Go.Proofs.Ytcefohebnngfnaa
namespace Fl
open Ieee

def inf : Nat := 9218868437227405312
def sgn : Nat := 9223372036854775808
def bin : Nat := 4503599627370496
def one : Nat := 4607182418800017408

theorem d_sign : double.signWeight = sgn := by decide +kernel
theorem d_bin : double.binade = bin := by decide +kernel
theorem d_inf : double.infRung = inf := by decide +kernel
theorem d_least : double.leastPlace = -1074 := by decide +kernel
theorem d_width : 2 ^ double.width = 18446744073709551616 := by decide +kernel

/-- the digits and the place of a rung, and what it stands for -/
def mg (r : Nat) : Nat := if r < bin then r else bin + r % bin
def up (r : Nat) : Nat := if r < bin then 0 else r / bin - 1
def val (r : Nat) : Nat := mg r * 2 ^ up r

theorem val_zero : val 0 = 0 := by simp [val, mg, bin]
theorem val_lt {a b : Nat} (h : a < b) : val a < val b := by
  unfold val mg up
  have hb : bin = 4503599627370496 := rfl
  by_cases h1 : b < bin
  · have h2 : a < bin := by omega
    simp [h1, h2, h]
  · by_cases h2 : a < bin
    · simp only [h1, h2, if_true, if_false, Nat.pow_zero, Nat.mul_one]
      have : 1 ≤ 2 ^ (b / bin - 1) := Nat.one_le_two_pow
      have : (bin + b % bin) * 1 ≤ (bin + b % bin) * 2 ^ (b / bin - 1) := Nat.mul_le_mul_left _ this
      omega
    · simp only [h1, h2, if_false]
      have ha' : a / bin * bin + a % bin = a := by have := Nat.div_add_mod a bin; rw [Nat.mul_comm]; exact this
      have hb' : b / bin * bin + b % bin = b := by have := Nat.div_add_mod b bin; rw [Nat.mul_comm]; exact this
      have ra : a % bin < bin := Nat.mod_lt _ (by omega)
      have rb : b % bin < bin := Nat.mod_lt _ (by omega)
      have qa : 1 ≤ a / bin := by rw [hb]; omega
      have qb : 1 ≤ b / bin := by rw [hb]; omega
      by_cases hq : a / bin = b / bin
      · rw [hq]
        refine Nat.mul_lt_mul_of_pos_right ?_ (Nat.two_pow_pos _)
        rw [hq] at ha'
        omega
      · have hq' : a / bin < b / bin := by
          have : a / bin ≤ b / bin := Nat.div_le_div_right (Nat.le_of_lt h)
          omega
        have e : b / bin - 1 = (a / bin - 1) + 1 + (b / bin - a / bin - 1) := by omega
        have h3 : (bin + a % bin) * 2 ^ (a / bin - 1) < (2 * bin) * 2 ^ (a / bin - 1) := Nat.mul_lt_mul_of_pos_right (by omega) (Nat.two_pow_pos _)
        have h4 : (2 * bin) * 2 ^ (a / bin - 1) = bin * 2 ^ ((a / bin - 1) + 1) := by rw [Nat.pow_succ]; ac_rfl
        have h5 : bin * 2 ^ ((a / bin - 1) + 1) ≤ bin * 2 ^ (b / bin - 1) := Nat.mul_le_mul_left _ (Nat.pow_le_pow_right (by omega) (by omega))
        have h6 : bin * 2 ^ (b / bin - 1) ≤ (bin + b % bin) * 2 ^ (b / bin - 1) := Nat.mul_le_mul_right _ (by omega)
        omega
theorem val_lt_iff {a b : Nat} : val a < val b ↔ a < b := by
  refine ⟨fun h => ?_, val_lt⟩
  by_cases e : a = b
  · subst e; omega
  · by_cases g : b < a
    · have := val_lt g; omega
    · omega
theorem val_inj {a b : Nat} : val a = val b ↔ a = b := by
  refine ⟨fun h => ?_, fun h => by rw [h]⟩
  by_cases g : a < b
  · have := val_lt g; omega
  · by_cases g' : b < a
    · have := val_lt g'; omega
    · omega

/-- the rung and the sign of a word -/
def rung (x : Nat) : Nat := if x < sgn then x else x - sgn
def isNeg (x : Nat) : Bool := decide (sgn ≤ x)
def nan (x : Nat) : Bool := decide (inf < rung x)
/-- the place of a word among all: its rung, with its sign -/
def sr (x : Nat) : Int := if x < sgn then x else (sgn : Int) - x

theorem read_eq (x : Nat) (h : x < 18446744073709551616) : double.read x =
    if rung x < inf then .number (isNeg x) (mg (rung x)) (-1074 + (up (rung x) : Nat)) else if rung x = inf then .infinity (isNeg x) else .nan (isNeg x) (rung x - inf) := by
  have hs : sgn = 9223372036854775808 := rfl
  have e1 : (x / sgn % 2 == 1) = isNeg x := by
    unfold isNeg
    rw [hs, Bool.eq_iff_iff]
    simp
    omega
  have e2 : x % sgn = rung x := by
    unfold rung
    rw [hs]
    split <;> omega
  unfold Format.read
  simp only [d_sign, d_bin, d_inf, d_least, e1, e2]
  unfold mg up
  by_cases h1 : rung x < bin
  · have : rung x < inf := by have : bin < inf := by decide +kernel
                              omega
    simp [h1, this]
  · simp [h1]

theorem cmp_of {a b c d : Int} (h1 : a < b ↔ c < d) (h2 : a = b ↔ c = d) : compare a b = compare c d := by
  show compareOfLessAndEq a b = compareOfLessAndEq c d
  unfold compareOfLessAndEq
  simp only [h1, h2]

theorem shl (m k : Nat) : m <<< k = m * 2 ^ k := Nat.shiftLeft_eq m k

theorem signed_eq (s : Bool) (m k : Nat) : signed s m k = (if s then -((m * 2 ^ k : Nat) : Int) else ((m * 2 ^ k : Nat) : Int)) := by
  unfold signed; simp only [shl]

/-- THE ORDER OF NUMBERS IS THAT OF THEIR PLACES. -/
theorem order_eq (x y : Nat) (hx : x < 18446744073709551616) (hy : y < 18446744073709551616) :
    FloatKind.f64.format.order x y = if nan x || nan y then none else some (compare (sr x) (sr y)) := by
  show double.order x y = _
  have hs : sgn = 9223372036854775808 := rfl
  have hi : inf = 9218868437227405312 := rfl
  unfold Format.order
  rw [read_eq x hx, read_eq y hy]
  have srx : sr x = if isNeg x then -(rung x : Int) else (rung x : Int) := by
    unfold sr isNeg rung; by_cases g : x < sgn
    · have : ¬ sgn ≤ x := by omega
      simp [g, this]
    · have g' : sgn ≤ x := by omega
      simp only [g, g', if_false, decide_true, if_true]; omega
  have sry : sr y = if isNeg y then -(rung y : Int) else (rung y : Int) := by
    unfold sr isNeg rung; by_cases g : y < sgn
    · have : ¬ sgn ≤ y := by omega
      simp [g, this]
    · have g' : sgn ≤ y := by omega
      simp only [g, g', if_false, decide_true, if_true]; omega
  rw [srx, sry]
  generalize isNeg x = s
  generalize isNeg y = t
  unfold nan
  generalize rung x = a
  generalize rung y = b
  by_cases na : inf < a
  · have h1 : ¬ a < inf := by omega
    have h2 : ¬ a = inf := by omega
    simp [h1, h2, na, Datum.order]
  · by_cases nb : inf < b
    · have h1 : ¬ b < inf := by omega
      have h2 : ¬ b = inf := by omega
      simp only [h1, h2, nb, if_false, decide_true, Bool.or_true, if_true]
      split
      · rfl
      · split <;> rfl
    · simp only [na, nb, decide_false, Bool.or_false, Bool.false_eq_true, if_false]
      by_cases ha : a < inf
      · by_cases hb : b < inf
        · simp only [ha, hb, if_true, Datum.order]
          congr 1
          have e1 : ((-1074 + (up a : Int)) - min (-1074 + (up a : Int)) (-1074 + (up b : Int))).toNat = up a - min (up a) (up b) := by omega
          have e2 : ((-1074 + (up b : Int)) - min (-1074 + (up a : Int)) (-1074 + (up b : Int))).toNat = up b - min (up a) (up b) := by omega
          rw [e1, e2, signed_eq, signed_eq]
          have k : 0 < 2 ^ min (up a) (up b) := Nat.two_pow_pos _
          have va : val a = mg a * 2 ^ (up a - min (up a) (up b)) * 2 ^ min (up a) (up b) := by
            unfold val; rw [Nat.mul_assoc, ← Nat.pow_add]; congr 2; omega
          have vb : val b = mg b * 2 ^ (up b - min (up a) (up b)) * 2 ^ min (up a) (up b) := by
            unfold val; rw [Nat.mul_assoc, ← Nat.pow_add]; congr 2; omega
          generalize mg a * 2 ^ (up a - min (up a) (up b)) = p at va ⊢
          generalize mg b * 2 ^ (up b - min (up a) (up b)) = q at vb ⊢
          generalize 2 ^ min (up a) (up b) = z at va vb k
          have l1 : p < q ↔ a < b := by rw [← val_lt_iff (a := a), va, vb]; exact ⟨fun h => Nat.mul_lt_mul_of_pos_right h k, fun h => Nat.lt_of_mul_lt_mul_right h⟩
          have l2 : q < p ↔ b < a := by rw [← val_lt_iff (a := b), va, vb]; exact ⟨fun h => Nat.mul_lt_mul_of_pos_right h k, fun h => Nat.lt_of_mul_lt_mul_right h⟩
          have p0 : p = 0 ↔ a = 0 := by
            rw [← val_inj (a := a), val_zero, va]
            constructor
            · intro h; rw [h]; simp
            · intro h; rcases Nat.mul_eq_zero.1 h with h | h <;> omega
          have q0 : q = 0 ↔ b = 0 := by
            rw [← val_inj (a := b), val_zero, vb]
            constructor
            · intro h; rw [h]; simp
            · intro h; rcases Nat.mul_eq_zero.1 h with h | h <;> omega
          cases s <;> cases t <;> simp only [if_true, Bool.false_eq_true, if_false] <;> exact cmp_of (by omega) (by omega)
        · have hb' : b = inf := by omega
          subst hb'
          simp only [ha, Nat.lt_irrefl, if_true, if_false, Datum.order]
          congr 1
          cases s <;> cases t <;> simp only [if_true, Bool.false_eq_true, if_false] <;> symm <;> first | exact Int.compare_eq_lt.2 (by omega) | exact Int.compare_eq_gt.2 (by omega)
      · have ha' : a = inf := by omega
        subst ha'
        by_cases hb : b < inf
        · simp only [hb, Nat.lt_irrefl, if_true, if_false, Datum.order]
          congr 1
          cases s <;> cases t <;> simp only [if_true, Bool.false_eq_true, if_false] <;> symm <;> first | exact Int.compare_eq_lt.2 (by omega) | exact Int.compare_eq_gt.2 (by omega)
        · have hb' : b = inf := by omega
          subst hb'
          simp only [Nat.lt_irrefl, if_true, if_false, Datum.order]
          cases s <;> cases t <;> decide +kernel

end Fl
end Go.Proofs.Ytcefohebnngfnaa
