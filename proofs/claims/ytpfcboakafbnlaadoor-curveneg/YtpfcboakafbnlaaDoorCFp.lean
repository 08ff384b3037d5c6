/-
  Numbers modulo 2^255 - 19 as a field: inverses, powers, squares. Plain mathematics: nothing of the program stands here.
-/
import Derived.Test.YtpfcboakafbnlaaDoorPrime
set_option linter.unusedVariables false
namespace Go.Proofs.YtpfcboakafbnlaaDoor
instance : NeZero pp := ⟨by decide⟩
abbrev Fe := Fin pp
/-- A number's element. -/
def fe (n : Nat) : Fe := Fin.ofNat pp n
theorem fe_val (n : Nat) : (fe n).val = n % pp := rfl
theorem fe_eq {a b : Nat} (h : a % pp = b % pp) : fe a = fe b := Fin.ext h
theorem fe_iff {a b : Nat} : fe a = fe b ↔ a % pp = b % pp := ⟨fun h => congrArg Fin.val h, fe_eq⟩
theorem fe_mod (n : Nat) : fe (n % pp) = fe n := fe_eq (Nat.mod_mod _ _)
theorem fe_of (x : Fe) : fe x.val = x := Fin.ext (Nat.mod_eq_of_lt x.isLt)
theorem fe_add (a b : Nat) : fe (a + b) = fe a + fe b := by
  apply Fin.ext
  rw [Fin.val_add, fe_val, fe_val, fe_val, ← Nat.add_mod]
theorem fe_mul (a b : Nat) : fe (a * b) = fe a * fe b := by
  apply Fin.ext
  rw [Fin.val_mul, fe_val, fe_val, fe_val, ← Nat.mul_mod]
theorem fe_zero : fe 0 = 0 := rfl
theorem fe_one : fe 1 = 1 := rfl
theorem val0 : (0 : Fe).val = 0 := rfl
theorem val1 : (1 : Fe).val = 1 := rfl
theorem ne_val {a : Fe} (h : a ≠ 0) : a.val % pp ≠ 0 := fun h0 => h (Fin.ext (by rw [Nat.mod_eq_of_lt a.isLt] at h0; exact h0))
theorem one_ne : (1 : Fe) ≠ 0 := fun h => absurd (congrArg Fin.val h) (by rw [val0, val1]; decide)
/-- No product but of 0 is 0. -/
theorem mul_ne {a b : Fe} (ha : a ≠ 0) (hb : b ≠ 0) : a * b ≠ 0 := fun h => by
  have h1 : a.val * b.val % pp = 0 := by have := congrArg Fin.val h; rwa [Fin.val_mul, val0] at this
  rcases pr_pp.dvd (Nat.dvd_of_mod_eq_zero h1) with h2 | h2
  · exact ne_val ha (Nat.mod_eq_zero_of_dvd h2)
  · exact ne_val hb (Nat.mod_eq_zero_of_dvd h2)
theorem mul_zero_or {a b : Fe} (h : a * b = 0) : a = 0 ∨ b = 0 := by
  by_cases ha : a = 0
  · exact .inl ha
  · by_cases hb : b = 0
    · exact .inr hb
    · exact absurd h (mul_ne ha hb)
theorem mul_cancel {a b c : Fe} (hc : c ≠ 0) (h : a * c = b * c) : a = b := by
  have h1 : (a - b) * c = 0 := by grobner
  rcases mul_zero_or h1 with h2 | h2
  · grobner
  · exact absurd h2 hc
/-- The power, of numbers. -/
def pw (a : Fe) (e : Nat) : Fe := fe (a.val ^ e)
theorem pw_fe (n e : Nat) : pw (fe n) e = fe (n ^ e) := fe_eq (by rw [fe_val]; exact (Nat.pow_mod n e pp).symm)
theorem pw_add (a : Fe) (m n : Nat) : pw a (m + n) = pw a m * pw a n := by rw [pw, Nat.pow_add, fe_mul]; rfl
theorem pw_pw (a : Fe) (m n : Nat) : pw (pw a m) n = pw a (m * n) := by
  show pw (fe (a.val ^ m)) n = fe (a.val ^ (m * n))
  rw [pw_fe, ← Nat.pow_mul]
theorem pw_mul (a b : Fe) (n : Nat) : pw (a * b) n = pw a n * pw b n := by
  have : a * b = fe (a.val * b.val) := by rw [fe_mul, fe_of, fe_of]
  rw [this, pw_fe, Nat.mul_pow, fe_mul]; rfl
theorem pw_one (a : Fe) : pw a 1 = a := by rw [pw, Nat.pow_one, fe_of]
theorem pw_two (a : Fe) : pw a 2 = a * a := by rw [show (2 : Nat) = 1 + 1 from rfl, pw_add, pw_one]
theorem pw_zero (a : Fe) : pw a 0 = 1 := rfl
theorem pw_succ (a : Fe) (n : Nat) : pw a (n + 1) = pw a n * a := by rw [pw_add, pw_one]
theorem one_pw (n : Nat) : pw 1 n = 1 := by rw [pw, val1, Nat.one_pow]; rfl
theorem pw_fermat {a : Fe} (h : a ≠ 0) (n : Nat) (hn : n = pp - 1) : pw a n = 1 := by
  rw [hn]
  exact fe_eq (b := 1) (by rw [pp_fermat (ne_val h)]; decide)
/-- A power found by squarings. -/
theorem pw_of (a e f v : Nat) (he : e < 2 ^ f) (h : pmod pp f a e 1 = v) : pw (fe a) e = fe v := by
  rw [pw_fe, ← fe_mod, pmod_one f v he h]
/-- The inverse (0 of 0), by squarings. -/
def fin (a : Fe) : Fe := fe (pmod pp 255 a.val 57896044618658097711785492504343953926634992332820282019728792003956564819947 1)
theorem fin_pw (a : Fe) {n : Nat} (hn : n = pp - 2) : fin a = pw a n := by
  obtain ⟨X, hX⟩ : ∃ X, X = 57896044618658097711785492504343953926634992332820282019728792003956564819947 := ⟨_, rfl⟩
  have e : n = X := by rw [hn, hX]; decide
  rw [fin, ← hX, pmod_eq _ _ _ _ _ (by rw [hX]; decide), Nat.one_mul, fe_mod, e]
  rfl
theorem mul_fin {a : Fe} (h : a ≠ 0) : a * fin a = 1 := by
  obtain ⟨n, hn⟩ : ∃ n, n = pp - 2 := ⟨_, rfl⟩
  rw [fin_pw a hn]
  have h1 : pw a (n + 1) = 1 := pw_fermat h _ (by rw [hn]; decide)
  rw [pw_succ] at h1
  grobner
theorem fin_mul {a : Fe} (h : a ≠ 0) : fin a * a = 1 := by have := mul_fin h; grobner
theorem fin_eq {a b : Fe} (h : a * b = 1) : fin a = b := by
  have ha : a ≠ 0 := fun h0 => one_ne (by rw [← h, h0]; grobner)
  have := mul_fin ha
  exact mul_cancel ha (by grobner)
theorem fin_ne {a : Fe} (h : a ≠ 0) : fin a ≠ 0 := fun h0 => by
  have := mul_fin h
  rw [h0] at this
  exact one_ne (by grobner)
/- Squares. -/
theorem sq_eq {a b : Fe} (h : a * a = b * b) : a = b ∨ a = -b := by
  have h1 : (a - b) * (a + b) = 0 := by grobner
  rcases mul_zero_or h1 with h2 | h2
  · left; grobner
  · right; grobner
theorem two_ne : (2 : Fe) ≠ 0 := fun h => absurd (congrArg Fin.val h) (by decide)
theorem neg_one_ne : (1 : Fe) ≠ -1 := by decide
/-- A root of -1. -/
def ii : Fe := fe 19681161376707505956807079304988542015446066515923890162744021073123829784752
theorem ii_sq : ii * ii = -1 := by
  have : ii * ii + 1 = 0 := by
    show fe _ * fe _ + fe 1 = fe 0
    rw [← fe_mul, ← fe_add]
    exact fe_eq (by decide)
  grobner
theorem euler {a s : Fe} (ha : a ≠ 0) (h : a = s * s) {n : Nat} (hn : 2 * n = pp - 1) : pw a n = 1 := by
  have hs : s ≠ 0 := fun h0 => ha (by rw [h, h0]; grobner)
  rw [h, ← pw_two, pw_pw]
  exact pw_fermat hs _ hn
end Go.Proofs.YtpfcboakafbnlaaDoor
