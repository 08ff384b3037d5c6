/-
  Numbers as digits of 65536, the lowest first.
-/
import Derived.Test.YtomfnkbghlpkeaaDoorRMath
set_option linter.unusedVariables false
namespace Go.Proofs.YtomfnkbghlpkeaaDoor
def val : List Nat → Nat
  | [] => 0
  | d :: r => d + 65536 * val r
theorem val_append (a b : List Nat) : val (a ++ b) = val a + 65536 ^ a.length * val b := by
  induction a with
  | nil => simp [val]
  | cons d r ih =>
    simp only [List.cons_append, val, ih, List.length_cons, Nat.pow_succ, Nat.mul_add]
    rw [Nat.mul_comm (65536 ^ r.length) 65536, Nat.mul_assoc, Nat.add_assoc]
theorem val_set (l : List Nat) (i v : Nat) (h : i < l.length) : val (l.set i v) + 65536 ^ i * l.getD i 0 = val l + 65536 ^ i * v := by
  induction l generalizing i with
  | nil => simp at h
  | cons d r ih =>
    cases i with
    | zero => simp [val]; omega
    | succ i =>
      have := ih i (by simpa using h)
      simp only [List.set_cons_succ, val, List.getD_cons_succ, Nat.pow_succ]
      rw [Nat.mul_comm (65536 ^ i) 65536, Nat.mul_assoc, Nat.mul_assoc]
      omega
theorem val_zero (n : Nat) : val (List.replicate n 0) = 0 := by
  induction n with
  | zero => rfl
  | succ n ih => simp [List.replicate_succ, val, ih]
theorem val_lt (l : List Nat) (h : ∀ d ∈ l, d < 65536) : val l < 65536 ^ l.length := by
  induction l with
  | nil => simp [val]
  | cons d r ih =>
    have h1 := ih (fun x hx => h x (by simp [hx]))
    have h2 := h d (by simp)
    simp only [val, List.length_cons, Nat.pow_succ]
    have : 65536 * (val r + 1) ≤ 65536 * 65536 ^ r.length := Nat.mul_le_mul_left _ h1
    rw [Nat.mul_comm (65536 ^ r.length)]
    omega
theorem val_take (l : List Nat) (n : Nat) (h : n < l.length) : val (l.take (n + 1)) = val (l.take n) + 65536 ^ n * l.getD n 0 := by
  rw [List.take_succ_eq_append_getElem h, val_append]
  simp [val, h, Nat.min_eq_left (Nat.le_of_lt h)]
/-- Digits with noughts behind the end. -/
theorem val_drop (l : List Nat) (n : Nat) : val l = val (l.take n) + 65536 ^ n * val (l.drop n) := by
  by_cases h : n ≤ l.length
  · conv => lhs; rw [← List.take_append_drop n l, val_append]
    rw [List.length_take, Nat.min_eq_left h]
  · rw [List.take_of_length_le (by omega), List.drop_eq_nil_of_le (by omega)]; simp [val]
theorem drop_val_eq (a b : List Nat) (n : Nat) (h : ∀ i, n ≤ i → a.getD i 0 = b.getD i 0) : val (a.drop n) = val (b.drop n) := by
  have key : ∀ (m : Nat) (x y : List Nat), x.length + y.length ≤ m → (∀ i, x.getD i 0 = y.getD i 0) → val x = val y := by
    intro m
    induction m with
    | zero =>
      intro x y hl _
      have hx : x = [] := List.length_eq_zero_iff.1 (by omega)
      have hy : y = [] := List.length_eq_zero_iff.1 (by omega)
      rw [hx, hy]
    | succ m ih =>
      intro x y hl he
      cases x with
      | nil =>
        cases y with
        | nil => rfl
        | cons d r =>
          have h0 := he 0
          have h1 := ih [] r (by simp at hl ⊢; omega) (fun i => by have := he (i + 1); simpa using this)
          simp [val] at h0 h1 ⊢
          omega
      | cons d r =>
        cases y with
        | nil =>
          have h0 := he 0
          have h1 := ih r [] (by simp at hl ⊢; omega) (fun i => by have := he (i + 1); simpa using this)
          simp [val] at h0 h1 ⊢
          omega
        | cons d' r' =>
          have h0 := he 0
          have h1 := ih r r' (by simp at hl ⊢; omega) (fun i => by have := he (i + 1); simpa using this)
          simp at h0
          simp [val, h0, h1]
  exact key _ _ _ (Nat.le_refl _) (fun i => by have := h (n + i) (by omega); simpa using this)
/-- Two numbers whose digits agree above place n and part there. -/
theorem val_less (a b : List Nat) (ha : ∀ d ∈ a, d < 65536) (hb : ∀ d ∈ b, d < 65536) (n : Nat) (h : ∀ i, n < i → a.getD i 0 = b.getD i 0) (hn : a.getD n 0 < b.getD n 0) : val a < val b := by
  have d1 := drop_val_eq a b (n + 1) (fun i hi => h i hi)
  have e : ∀ l : List Nat, (∀ d ∈ l, d < 65536) → val l = val (l.take n) + 65536 ^ n * l.getD n 0 + 65536 ^ (n + 1) * val (l.drop (n + 1)) := by
    intro l hl
    rw [val_drop l (n + 1)]
    congr 1
    by_cases h : n < l.length
    · exact val_take l n h
    · rw [List.take_of_length_le (by omega), List.take_of_length_le (by omega), List.getD_eq_getElem?_getD, List.getElem?_eq_none (by omega)]; simp
  rw [e a ha, e b hb, d1]
  have l1 : val (a.take n) < 65536 ^ n := by
    have := val_lt (a.take n) (fun d hd => ha d (List.mem_of_mem_take hd))
    refine Nat.lt_of_lt_of_le this (Nat.pow_le_pow_right (by decide) ?_)
    simp; omega
  have l2 : 65536 ^ n * (a.getD n 0 + 1) ≤ 65536 ^ n * b.getD n 0 := Nat.mul_le_mul_left _ hn
  rw [Nat.mul_add, Nat.mul_one] at l2
  omega
end Go.Proofs.YtomfnkbghlpkeaaDoor
