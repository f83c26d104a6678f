/-
  The plain answers' sum, as numbers: words, rounds, blocks.
-/
namespace Go.Proofs.YtgpnhdnncfpbcaaDoor.Sh
/-- a word turned right by one; by n -/
def turn1 (x : Nat) : Nat := x / 2 + x % 2 * 2147483648
def turnN : Nat → Nat → Nat
  | x, 0 => x
  | x, n + 1 => turnN (turn1 x) n
theorem turn1_lt (x : Nat) (h : x < 4294967296) : turn1 x < 4294967296 := by unfold turn1; omega
theorem turnN_lt : ∀ (n x : Nat), x < 4294967296 → turnN x n < 4294967296
  | 0, _, h => h
  | n + 1, x, h => turnN_lt n _ (turn1_lt x h)
theorem turnN_succ : ∀ (n x : Nat), turnN x (n + 1) = turn1 (turnN x n)
  | 0, _ => rfl
  | n + 1, x => by
    show turnN (turn1 x) (n + 1) = turn1 (turnN (turn1 x) n)
    exact turnN_succ n (turn1 x)
/-- a turn is a shift to both sides -/
theorem turnN_eq : ∀ (n x : Nat), x < 4294967296 → n ≤ 32 → turnN x n = x / 2 ^ n + x % 2 ^ n * 2 ^ (32 - n)
  | 0, x, _, _ => by simp [turnN, Nat.mod_one]
  | n + 1, x, h, hn => by
    rw [turnN_succ, turnN_eq n x h (by omega)]
    unfold turn1
    have e1 : 2 ^ (32 - n) = 2 * 2 ^ (32 - (n + 1)) := by rw [← Nat.pow_succ']; congr 1; omega
    have e2 : (2 : Nat) ^ (n + 1) = 2 ^ n * 2 := Nat.pow_succ ..
    have e3 : (2 : Nat) ^ n * 2 ^ (32 - (n + 1)) = 2147483648 := by
      rw [← Nat.pow_add, show n + (32 - (n + 1)) = 31 by omega]
    have hp : 0 < 2 ^ n := Nat.pow_pos (by omega)
    generalize 2 ^ (32 - (n + 1)) = A at *
    generalize 2 ^ n = B at *
    rw [e1, e2, ← Nat.div_div_eq_div_mul, Nat.mod_mul]
    generalize hq : x / B = q
    generalize x % B = r
    have h1 : r * (2 * A) = 2 * (r * A) := by rw [Nat.mul_left_comm]
    have h2 : (r + B * (q % 2)) * A = r * A + q % 2 * 2147483648 := by
      rw [Nat.add_mul, ← e3, Nat.mul_assoc, Nat.mul_left_comm (q % 2) B A]
    rw [h1, h2]
    generalize r * A = z
    omega
/-- a word shifted right -/
def shiftN : Nat → Nat → Nat
  | x, 0 => x
  | x, n + 1 => shiftN (x / 2) n
theorem shiftN_eq : ∀ (n x : Nat), shiftN x n = x / 2 ^ n
  | 0, x => by simp [shiftN]
  | n + 1, x => by
    show shiftN (x / 2) n = _
    rw [shiftN_eq n, Nat.div_div_eq_div_mul, Nat.pow_succ']
theorem shiftN_succ : ∀ (n x : Nat), shiftN x (n + 1) = shiftN x n / 2
  | 0, _ => rfl
  | n + 1, x => by
    show shiftN (x / 2) (n + 1) = shiftN (x / 2) n / 2
    exact shiftN_succ n (x / 2)
/-- the rounds' numbers -/
def kList : List Nat := [
  1116352408, 1899447441, 3049323471, 3921009573, 961987163, 1508970993, 2453635748, 2870763221,
  3624381080, 310598401, 607225278, 1426881987, 1925078388, 2162078206, 2614888103, 3248222580,
  3835390401, 4022224774, 264347078, 604807628, 770255983, 1249150122, 1555081692, 1996064986,
  2554220882, 2821834349, 2952996808, 3210313671, 3336571891, 3584528711, 113926993, 338241895,
  666307205, 773529912, 1294757372, 1396182291, 1695183700, 1986661051, 2177026350, 2456956037,
  2730485921, 2820302411, 3259730800, 3345764771, 3516065817, 3600352804, 4094571909, 275423344,
  430227734, 506948616, 659060556, 883997877, 958139571, 1322822218, 1537002063, 1747873779,
  1955562222, 2024104815, 2227730452, 2361852424, 2428436474, 2756734187, 3204031479, 3329325298]
def kN (i : Nat) : Nat := kList.getD i 0
end Go.Proofs.YtgpnhdnncfpbcaaDoor.Sh
