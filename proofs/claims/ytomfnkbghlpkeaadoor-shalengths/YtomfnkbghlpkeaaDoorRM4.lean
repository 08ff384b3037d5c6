/-
  Digits and roots: plain mathematics.
-/
import Derived.Test.YtomfnkbghlpkeaaDoorRM3
set_option linter.unusedVariables false
namespace Go.Proofs.YtomfnkbghlpkeaaDoor
theorem val_digit (l : List Nat) (h : ∀ d ∈ l, d < 65536) (n : Nat) : l.getD n 0 = val l / 65536 ^ n % 65536 := by
  have h1 : val (l.take n) < 65536 ^ n := by
    have := val_lt (l.take n) (fun d hd => h d (List.mem_of_mem_take hd))
    exact Nat.lt_of_lt_of_le this (Nat.pow_le_pow_right (by decide) (by simp; omega))
  have h2 : val l / 65536 ^ n = val (l.drop n) := by
    rw [val_drop l n, Nat.add_mul_div_left _ _ (Nat.pow_pos (by decide)), Nat.div_eq_of_lt h1, Nat.zero_add]
  rw [h2]
  by_cases hn : n < l.length
  · have e : l.drop n = l[n] :: l.drop (n + 1) := List.drop_eq_getElem_cons hn
    rw [e, val, Nat.add_mul_mod_self_left, Nat.mod_eq_of_lt (h _ (List.getElem_mem hn))]
    simp [hn]
  · rw [List.drop_eq_nil_of_le (by omega), List.getD_eq_getElem?_getD, List.getElem?_eq_none (by omega)]; rfl
/-- A number that 2^(16 q + r + 1) divides has room for 2^r in its digit q. -/
theorem digit_room (X q r : Nat) (hr : r < 16) (hd : 2 ^ (16 * q + r + 1) ∣ X) : X / 65536 ^ q % 65536 + 2 ^ r < 65536 := by
  obtain ⟨Y, rfl⟩ := hd
  have e1 : 65536 ^ q = 2 ^ (16 * q) := by rw [Nat.pow_mul]
  have e2 : 2 ^ (16 * q + r + 1) * Y = 2 ^ (16 * q) * (2 ^ (r + 1) * Y) := by rw [Nat.add_assoc, Nat.pow_add, Nat.mul_assoc]
  rw [e1, e2, Nat.mul_div_cancel_left _ (Nat.two_pow_pos _)]
  have e3 : (65536 : Nat) = 2 ^ (r + 1) * 2 ^ (15 - r) := by rw [← Nat.pow_add, show r + 1 + (15 - r) = 16 by omega]
  conv => lhs; rw [e3]
  rw [Nat.mul_mod_mul_left, e3]
  have h1 : Y % 2 ^ (15 - r) + 1 ≤ 2 ^ (15 - r) := Nat.mod_lt _ (Nat.two_pow_pos _)
  have h2 : 2 ^ (r + 1) * (Y % 2 ^ (15 - r) + 1) ≤ 2 ^ (r + 1) * 2 ^ (15 - r) := Nat.mul_le_mul_left _ h1
  have h3 : 2 ^ (r + 1) = 2 * 2 ^ r := by rw [Nat.pow_succ, Nat.mul_comm]
  have h4 := Nat.two_pow_pos r
  rw [Nat.mul_add, Nat.mul_one] at h2
  omega
theorem val_add (l : List Nat) (q d : Nat) (h : q < l.length) : val (l.set q (l.getD q 0 + d)) = val l + 65536 ^ q * d := by
  have := val_set l q (l.getD q 0 + d) h
  rw [Nat.mul_add] at this
  omega
theorem pow_place (b : Nat) : 65536 ^ (b / 16) * 2 ^ (b % 16) = 2 ^ b := by
  rw [show (65536 : Nat) = 2 ^ 16 from rfl, ← Nat.pow_mul, ← Nat.pow_add, Nat.div_add_mod]
/-- The one root. -/
theorem root_one (k T X Y : Nat) (hk : 0 < k) (h1 : X ^ k ≤ T) (h2 : T < (X + 1) ^ k) (h3 : Y ^ k ≤ T) (h4 : T < (Y + 1) ^ k) : X = Y := by
  have a : X < Y + 1 := by
    apply Classical.byContradiction
    intro h
    have : (Y + 1) ^ k ≤ X ^ k := Nat.pow_le_pow_left (by omega) k
    omega
  have b : Y < X + 1 := by
    apply Classical.byContradiction
    intro h
    have : (X + 1) ^ k ≤ Y ^ k := Nat.pow_le_pow_left (by omega) k
    omega
  omega
theorem val5 (l : List Nat) (h : l.length = 5) : val l = l.getD 0 0 + 65536 * l.getD 1 0 + 4294967296 * l.getD 2 0 + 281474976710656 * l.getD 3 0 + 18446744073709551616 * l.getD 4 0 := by
  match l, h with
  | [a, b, c, d, e], _ => simp [val]; omega
end Go.Proofs.YtomfnkbghlpkeaaDoor
