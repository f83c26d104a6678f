/-
  What follows a number: as words, and the contract of gauge.Smooth.
-/
import Derived.Test.YtcefohebnngfnaaGb
namespace Go.Proofs.Ytcefohebnngfnaa
open Go.RowKit

namespace Fw
open Fl Ieee
/-- a share brought between 0 and 1 -/
def clamp (s : Nat) : Nat := if sgn ≤ s ∨ s = 0 then 0 else if one < s then one else s
theorem one_facts : nan one = false ∧ sr one = one ∧ nan 4607182418800017408 = false ∧ sr 4607182418800017408 = 4607182418800017408 := by decide +kernel
theorem max_run (s : Nat) (hs : s < 18446744073709551616) (hn : nan s = false) (ts : Array TypeId) (t : TypeId) (w : World) :
    (Builtin.max_ ts t #[.float .f64 s, .float .f64 0]).run Try.prog w = .ok (.float .f64 (if sgn ≤ s ∨ s = 0 then 0 else s)) w := by
  have hi : inf = 9218868437227405312 := rfl
  have hg : sgn = 9223372036854775808 := rfl
  have ho := order_zero s hs hn
  by_cases h1 : sgn < s
  · rw [if_pos h1] at ho
    rw [if_pos (.inl (by omega))]
    simp [Builtin.max_, Builtin.max2, ho]
  · rw [if_neg h1] at ho
    by_cases h2 : s = sgn
    · rw [if_pos (.inl h2)] at ho
      rw [if_pos (.inl (by omega))]
      have hd : (FloatKind.f64.decode s).neg = true := by rw [h2]; decide +kernel
      simp [Builtin.max_, Builtin.max2, ho, hd]
    · by_cases h3 : s = 0
      · rw [if_pos (.inr h3)] at ho
        rw [if_pos (.inr h3)]
        have hd : (FloatKind.f64.decode s).neg = false := by rw [h3]; decide +kernel
        subst h3
        simp [Builtin.max_, Builtin.max2, ho, hd]
      · rw [if_neg (by rintro (h | h); exact h2 h; exact h3 h)] at ho
        rw [if_neg (by omega)]
        simp [Builtin.max_, Builtin.max2, ho]
theorem min_run (s : Nat) (hs : s < sgn) (hn : nan s = false) (ts : Array TypeId) (t : TypeId) (w : World) :
    (Builtin.min_ ts t #[.float .f64 s, .float .f64 4607182418800017408]).run Try.prog w = .ok (.float .f64 (if one < s then one else s)) w := by
  have hi : inf = 9218868437227405312 := rfl
  have hg : sgn = 9223372036854775808 := rfl
  have h1 : one = 4607182418800017408 := rfl
  have sr1 : sr s = s := (rung_pos hs).2.2
  rcases Nat.lt_trichotomy s 4607182418800017408 with h | h | h
  · have ho := order_lt s 4607182418800017408 (by omega) (by omega) hn one_facts.2.2.1 (by rw [sr1, one_facts.2.2.2]; omega)
    rw [if_neg (by omega)]
    simp [Builtin.min_, Builtin.min2, ho]
  · have ho := order_same s 4607182418800017408 (by omega) (by omega) hn one_facts.2.2.1 (by rw [sr1, one_facts.2.2.2]; omega)
    rw [if_neg (by omega)]
    subst h
    simp [Builtin.min_, Builtin.min2, ho]
  · have ho := order_gt s 4607182418800017408 (by omega) (by omega) hn one_facts.2.2.1 (by rw [sr1, one_facts.2.2.2]; omega)
    rw [if_pos (by omega)]
    simp [Builtin.min_, Builtin.min2, ho, h1]

/-- what follows old by x, with that share -/
def smoothO (old x s : Nat) : Option Nat := ((floatBits .sub .f64 x old).bind fun d => floatBits .mul .f64 d s).bind fun e => floatBits .add .f64 old e
theorem smooth_step (old x s : Nat) (w : World) :
    ∃ d e r n1 n2 n3, (binOp .sub 23 (.float .f64 x) (.float .f64 old)).run Try.prog w = .ok (.float .f64 d) (w.drewN n1) ∧
      (binOp .mul 23 (.float .f64 d) (.float .f64 s)).run Try.prog (w.drewN n1) = .ok (.float .f64 e) (w.drewN (n1 + n2)) ∧
      (binOp .add 23 (.float .f64 old) (.float .f64 e)).run Try.prog (w.drewN (n1 + n2)) = .ok (.float .f64 r) (w.drewN (n1 + n2 + n3)) ∧ Rep (smoothO old x s) r := by
  obtain ⟨d, n1, h1, r1⟩ := arith_run .sub rfl 23 x old w
  obtain ⟨e, n2, h2, r2⟩ := arith_run .mul rfl 23 d s (w.drewN n1)
  obtain ⟨r, n3, h3, r3⟩ := arith_run .add rfl 23 old e ((w.drewN n1).drewN n2)
  simp only [World.drewN_drewN] at h2 h3
  refine ⟨d, e, r, n1, n2, n3, h1, h2, h3, ?_⟩
  unfold smoothO
  cases hs : floatBits .sub .f64 x old with
  | none =>
    rw [hs] at r1
    rw [none_left .mul r1.1 r1.2] at r2
    rw [none_right .add r2.1 r2.2] at r3
    exact r3
  | some d' =>
    rw [hs] at r1
    obtain ⟨_, rfl, _⟩ := r1
    show Rep ((floatBits .mul .f64 d s).bind fun e => floatBits .add .f64 old e) r
    cases hm : floatBits .mul .f64 d s with
    | none =>
      rw [hm] at r2
      rw [none_right .add r2.1 r2.2] at r3
      exact r3
    | some e' =>
      rw [hm] at r2
      obtain ⟨_, rfl, _⟩ := r2
      exact r3

theorem nearest_zero (s : Bool) (p : Int) : double.nearest s 0 p = if s then sgn else 0 := by
  unfold Format.nearest Format.word
  simp only [if_true]
  rw [d_sign]
  rfl
theorem mul_zero (d : Nat) (hd : d < 18446744073709551616) (hn : nan d = false) :
    (floatBits .mul .f64 d 0 = none ∧ floatBits .mul .f64 d sgn = none) ∨ (∃ e f, floatBits .mul .f64 d 0 = some e ∧ floatBits .mul .f64 d sgn = some f ∧ (e = 0 ∨ e = sgn) ∧ (f = 0 ∨ f = sgn)) := by
  have hr := nan_rung.1 hn
  have e0 : double.read 0 = .number false 0 (-1074) := by decide +kernel
  have e1 : double.read sgn = .number true 0 (-1074) := by decide +kernel
  show ((((double.read d).product (double.read 0)).map double.write) = none ∧ (((double.read d).product (double.read sgn)).map double.write) = none) ∨ (∃ e f, (((double.read d).product (double.read 0)).map double.write) = some e ∧ (((double.read d).product (double.read sgn)).map double.write) = some f ∧ (e = 0 ∨ e = sgn) ∧ (f = 0 ∨ f = sgn))
  rw [e0, e1, read_eq d hd]
  generalize isNeg d = s
  by_cases hf : rung d < inf
  · right
    rw [if_pos hf]
    refine ⟨_, _, rfl, rfl, ?_, ?_⟩
    · show double.nearest _ (_ * 0) _ = 0 ∨ double.nearest _ (_ * 0) _ = sgn
      rw [Nat.mul_zero, nearest_zero]
      cases s <;> simp
    · show double.nearest _ (_ * 0) _ = 0 ∨ double.nearest _ (_ * 0) _ = sgn
      rw [Nat.mul_zero, nearest_zero]
      cases s <;> simp
  · left
    rw [if_neg hf, if_pos (by omega)]
    exact ⟨rfl, rfl⟩
theorem add_zero (o e f : Nat) (ho : o < 18446744073709551616) (hn : nan o = false) (he : e = 0 ∨ e = sgn) (hf : f = 0 ∨ f = sgn) :
    ∃ r q, floatBits .add .f64 o e = some r ∧ floatBits .add .f64 o f = some q ∧ sr r = sr q := by
  have hr := nan_rung.1 hn
  have rd : ∀ z, z = 0 ∨ z = sgn → ∃ s, double.read z = .number s 0 (-1074) := by
    rintro z (rfl | rfl)
    · exact ⟨false, by decide +kernel⟩
    · exact ⟨true, by decide +kernel⟩
  obtain ⟨s1, h1⟩ := rd e he
  obtain ⟨s2, h2⟩ := rd f hf
  show ∃ r q, (((double.read o).sum (double.read e)).map double.write) = some r ∧ (((double.read o).sum (double.read f)).map double.write) = some q ∧ sr r = sr q
  rw [h1, h2, read_eq o ho]
  generalize isNeg o = s
  by_cases hfi : rung o < inf
  · rw [if_pos hfi]
    refine ⟨_, _, rfl, rfl, ?_⟩
    have z : ∀ b : Bool, ∀ k : Nat, signed b 0 k = 0 := fun b k => by cases b <;> simp [signed]
    simp only [z, Int.add_zero]
    generalize signed s (mg (rung o)) (-1074 + (up (rung o) : Nat) - min (-1074 + (up (rung o) : Nat) : Int) (-1074)).toNat = T
    by_cases hT : T = 0
    · subst hT
      show sr (double.nearest _ 0 _) = sr (double.nearest _ 0 _)
      rw [nearest_zero, nearest_zero]
      have : sr sgn = 0 := by decide +kernel
      have z0 : sr 0 = 0 := rfl
      cases s <;> cases s1 <;> cases s2 <;> simp [this, z0]
    · simp only [if_neg hT]
  · rw [if_neg hfi, if_pos (by omega)]
    exact ⟨_, _, rfl, rfl, rfl⟩
/-- a share of -0 says what a share of 0 says -/
theorem smooth_zero (old x : Nat) (ho : old < 18446744073709551616) (hn : nan old = false) (a b : Nat) (ha : Rep (smoothO old x 0) a) (hb : Rep (smoothO old x sgn) b) : Like a b := by
  unfold smoothO at ha hb
  cases hs : floatBits .sub .f64 x old with
  | none => rw [hs] at ha hb; exact Rep.like (o := none) ha hb
  | some d =>
    rw [hs] at ha hb
    have hd := num_of_bits hs
    change Rep ((floatBits .mul .f64 d 0).bind fun e => floatBits .add .f64 old e) a at ha
    change Rep ((floatBits .mul .f64 d sgn).bind fun e => floatBits .add .f64 old e) b at hb
    rcases mul_zero d hd.2 hd.1 with ⟨h1, h2⟩ | ⟨e, f, h1, h2, he, hf⟩
    · rw [h1] at ha; rw [h2] at hb; exact Rep.like (o := none) ha hb
    · rw [h1] at ha; rw [h2] at hb
      obtain ⟨r, q, k1, k2, k3⟩ := add_zero old e f ho hn he hf
      change Rep (floatBits .add .f64 old e) a at ha
      change Rep (floatBits .add .f64 old f) b at hb
      rw [k1] at ha; rw [k2] at hb
      obtain ⟨a1, rfl, a2⟩ := ha
      obtain ⟨b1, rfl, b2⟩ := hb
      exact ⟨a1, b1, .inr ⟨a2, b2, k3⟩⟩

/-- what gauge.Smooth hands back -/
def smoothG (old x s : Nat) : Option Nat := if nan old then (if nan x then none else some x) else if nan x || nan s then some old else smoothO old x (clamp s)
set_option maxHeartbeats 1000000 in
theorem smooth_any (old x s : Nat) (h1 : old < 18446744073709551616) (h2 : x < 18446744073709551616) (h3 : s < 18446744073709551616) (w : World) :
    Calls Try.prog 26 #[.float .f64 old, .float .f64 x, .float .f64 s] w (GotF w (smoothG old x s)) := by
  have N1 := Lib.hid (mnan_any old h1 w)
  have N2 := Lib.hid (mnan_any x h2 w)
  have N3 := Lib.hid (mnan_any s h3 w)
  have HG : Hid (smoothG old x s = if nan old then (if nan x then none else some x) else if nan x || nan s then some old else smoothO old x (clamp s)) := Lib.hid rfl
  generalize smoothG old x s = G at HG ⊢
  cases ho : nan old
  · rw [ho] at N1 HG
    cases hx : nan x
    · rw [hx] at N2 HG
      cases hsn : nan s
      · rw [hsn] at N3 HG
        have HK : Hid (G = smoothO old x (clamp s)) := Lib.hid (by rw [HG.out]; rfl)
        have hg : sgn = 9223372036854775808 := rfl
        have hmx := fun ts t => max_run s h3 hsn ts t w
        obtain ⟨m, hm⟩ : ∃ m, (if sgn ≤ s ∨ s = 0 then 0 else s) = m := ⟨_, rfl⟩
        have hm1 : m < sgn ∧ nan m = false ∧ (if one < m then one else m) = clamp s := by
          subst hm
          unfold clamp
          split
          · exact ⟨by omega, rfl, by simp⟩
          · exact ⟨by omega, hsn, rfl⟩
        rw [hm] at hmx
        have hmn := fun ts t => min_run m hm1.1 hm1.2.1 ts t w
        rw [hm1.2.2] at hmn
        obtain ⟨d, e, r, n1, n2, n3, r1, r2, r3, rep⟩ := smooth_step old x (clamp s) w
        have HR := Lib.hid rep
        generalize clamp s = c at *
        clear rep hm1 hm HG ho hx hsn h1 h2 h3 hg
        go_enter Try.func26, Try.ntmps26
        go_wp2_with fail
        refine N1.out.mono ?_
        rintro e w1 ⟨rfl, rfl⟩
        go_wp2_with fail
        refine N2.out.mono ?_
        rintro e w1 ⟨rfl, rfl⟩
        go_wp2_with fail
        refine N3.out.mono ?_
        rintro e w1 ⟨rfl, rfl⟩
        go_wp2
        go_ret
        exact ⟨_, _, rfl, by rw [HK.out]; exact HR.out, rfl⟩
      · rw [hsn] at N3 HG
        have HK : Hid (Rep G old) := Lib.hid (by rw [HG.out]; exact Rep.num h1 ho)
        clear HG ho hx hsn h1 h2 h3
        go_enter Try.func26, Try.ntmps26
        go_wp2_with fail
        refine N1.out.mono ?_
        rintro e w1 ⟨rfl, rfl⟩
        go_wp2_with fail
        refine N2.out.mono ?_
        rintro e w1 ⟨rfl, rfl⟩
        go_wp2_with fail
        refine N3.out.mono ?_
        rintro e w1 ⟨rfl, rfl⟩
        go_wp2
        go_ret
        exact ⟨_, 0, rfl, HK.out, rfl⟩
    · rw [hx] at N2 HG
      have HK : Hid (Rep G old) := Lib.hid (by rw [HG.out]; exact Rep.num h1 ho)
      clear HG ho hx h1 h2 h3
      go_enter Try.func26, Try.ntmps26
      go_wp2_with fail
      refine N1.out.mono ?_
      rintro e w1 ⟨rfl, rfl⟩
      go_wp2_with fail
      refine N2.out.mono ?_
      rintro e w1 ⟨rfl, rfl⟩
      go_wp2
      go_ret
      exact ⟨_, 0, rfl, HK.out, rfl⟩
  · rw [ho] at N1 HG
    have HK : Hid (Rep G x) := Lib.hid (by
      rw [HG.out]
      cases hx : nan x
      · exact Rep.num h2 hx
      · exact ⟨h2, hx⟩)
    clear HG ho h1 h2 h3
    go_enter Try.func26, Try.ntmps26
    go_wp2_with fail
    refine N1.out.mono ?_
    rintro e w1 ⟨rfl, rfl⟩
    go_wp2
    go_ret
    exact ⟨_, 0, rfl, HK.out, rfl⟩
end Fw
end Go.Proofs.Ytcefohebnngfnaa
