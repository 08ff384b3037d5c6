/-
  The plain mathematics of the reference's digests: its turns, its words, its blocks are those of the program.
-/
import Derived.Test.YtomfnkbghlpkeaaDoorTabs
set_option linter.unusedVariables false
namespace Go.Proofs.YtomfnkbghlpkeaaDoor
/-- One turn by one. -/
def turn1 (W x : Nat) : Nat := x / 2 + (x % 2) * 2 ^ (W - 1)
def turnN (W x : Nat) : Nat → Nat
  | 0 => x
  | n + 1 => turn1 W (turnN W x n)
theorem rot_sum (W x n : Nat) (hx : x < 2 ^ W) (hn : n ≤ W) : rot W x n = x / 2 ^ n + x % 2 ^ n * 2 ^ (W - n) := by
  have hW : 2 ^ W = 2 ^ n * 2 ^ (W - n) := by rw [← Nat.pow_add]; congr 1; omega
  unfold rot
  have h1 : (x <<< (W - n)) % 2 ^ W = (x % 2 ^ n) <<< (W - n) := by
    rw [Nat.shiftLeft_eq, Nat.shiftLeft_eq, hW, Nat.mul_mod_mul_right]
  have h2 : x >>> n < 2 ^ (W - n) := by
    rw [Nat.shiftRight_eq_div_pow, Nat.div_lt_iff_lt_mul (Nat.two_pow_pos _), Nat.mul_comm, ← hW]; exact hx
  rw [h1, Nat.or_comm, ← Nat.shiftLeft_add_eq_or_of_lt h2, Nat.shiftLeft_eq, Nat.shiftRight_eq_div_pow, Nat.add_comm]
theorem turnN_sum (W x : Nat) (hx : x < 2 ^ W) : ∀ n, n ≤ W → turnN W x n = x / 2 ^ n + x % 2 ^ n * 2 ^ (W - n)
  | 0, _ => by simp [turnN, Nat.mod_one]
  | n + 1, hn => by
    have ih := turnN_sum W x hx n (by omega)
    rw [turnN, ih]
    have e1 : 2 ^ (W - n) = 2 * 2 ^ (W - (n + 1)) := by
      rw [show W - n = (W - (n + 1)) + 1 by omega, Nat.pow_succ, Nat.mul_comm]
    have e2 : x / 2 ^ (n + 1) = x / 2 ^ n / 2 := by rw [Nat.pow_succ, Nat.div_div_eq_div_mul]
    have e3 : x % 2 ^ (n + 1) = x % 2 ^ n + 2 ^ n * (x / 2 ^ n % 2) := by rw [Nat.pow_succ, Nat.mod_mul]
    have e4 : 2 ^ (W - 1) = 2 ^ n * 2 ^ (W - (n + 1)) := by rw [← Nat.pow_add]; congr 1; omega
    unfold turn1
    rw [e1, e2, e3, e4]
    generalize x / 2 ^ n = q
    generalize x % 2 ^ n = r
    generalize 2 ^ (W - (n + 1)) = t
    have h1 : (q + r * (2 * t)) / 2 = q / 2 + r * t := by
      rw [show r * (2 * t) = 2 * (r * t) by rw [← Nat.mul_assoc, Nat.mul_comm r 2, Nat.mul_assoc]]
      omega
    have h2 : (q + r * (2 * t)) % 2 = q % 2 := by
      rw [show r * (2 * t) = 2 * (r * t) by rw [← Nat.mul_assoc, Nat.mul_comm r 2, Nat.mul_assoc]]
      omega
    rw [h1, h2, Nat.add_mul, Nat.add_assoc]
    congr 2
    rw [← Nat.mul_assoc, Nat.mul_comm (q % 2) (2 ^ n)]
theorem turnN_rot (W x n : Nat) (hx : x < 2 ^ W) (hn : n ≤ W) : turnN W x n = rot W x n := by
  rw [turnN_sum W x hx n hn, rot_sum W x n hx hn]
theorem turn1_lt (W x : Nat) (hW : 0 < W) (hx : x < 2 ^ W) : turn1 W x < 2 ^ W := by
  have h : 2 ^ W = 2 ^ (W - 1) * 2 := by rw [← Nat.pow_succ]; congr 1; omega
  unfold turn1
  have h2 : x % 2 = 0 ∨ x % 2 = 1 := by omega
  rcases h2 with h2 | h2 <;> rw [h2] <;> omega
theorem turnN_lt (W x : Nat) (hW : 0 < W) (hx : x < 2 ^ W) : ∀ n, turnN W x n < 2 ^ W
  | 0 => hx
  | n + 1 => turn1_lt W _ hW (turnN_lt W x hW hx n)
def halfN (x : Nat) : Nat → Nat
  | 0 => x
  | n + 1 => halfN x n / 2
theorem halfN_shr (x : Nat) : ∀ n, halfN x n = x >>> n
  | 0 => rfl
  | n + 1 => by rw [halfN, halfN_shr x n, Nat.shiftRight_succ]
end Go.Proofs.YtomfnkbghlpkeaaDoor
