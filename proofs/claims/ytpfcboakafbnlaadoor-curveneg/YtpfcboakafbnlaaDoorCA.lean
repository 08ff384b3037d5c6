/-
  Numbers modulo 2^255 - 19 as a field: inverses, powers, squares. Plain mathematics: nothing of the program stands here. The curve's points are a group: sums have no 0 below them, are points, and go together. Plain mathematics: nothing of the program stands here. The base, and its order: L of it are the neutral one. Plain mathematics: nothing of the program stands here. The base: L of it are the neutral one, and fewer than 256 are not. Plain mathematics: nothing of the program stands here. Roots modulo p; which numbers are those of points. Plain mathematics: nothing of the program stands here.
-/
import Derived.Test.YtpfcboakafbnlaaDoorPrime
set_option linter.unusedVariables false
namespace Go.Proofs.YtpfcboakafbnlaaDoor
abbrev Fe := Fin pp
/-- A number's element. -/
def fe (n : Nat) : Fe := Fin.ofNat pp n
theorem fe_val (n : Nat) : (fe n).val = n % pp := rfl
theorem fe_eq {a b : Nat} (h : a % pp = b % pp) : fe a = fe b := Fin.ext h
theorem fe_iff {a b : Nat} : fe a = fe b ↔ a % pp = b % pp := ⟨fun h => congrArg Fin.val h, fe_eq⟩
theorem fe_mod (n : Nat) : fe (n % pp) = fe n := fe_eq (Nat.mod_mod _ _)
theorem fe_of (x : Fe) : fe x.val = x := Fin.ext (Nat.mod_eq_of_lt x.isLt)
theorem fe_add (a b : Nat) : fe (a + b) = fe a + fe b := by
  apply Fin.ext
  rw [Fin.val_add, fe_val, fe_val, fe_val, ← Nat.add_mod]
theorem fe_mul (a b : Nat) : fe (a * b) = fe a * fe b := by
  apply Fin.ext
  rw [Fin.val_mul, fe_val, fe_val, fe_val, ← Nat.mul_mod]
theorem fe_zero : fe 0 = 0 := rfl
theorem fe_one : fe 1 = 1 := rfl
theorem val0 : (0 : Fe).val = 0 := rfl
theorem val1 : (1 : Fe).val = 1 := rfl
theorem ne_val {a : Fe} (h : a ≠ 0) : a.val % pp ≠ 0 := fun h0 => h (Fin.ext (by rw [Nat.mod_eq_of_lt a.isLt] at h0; exact h0))
theorem one_ne : (1 : Fe) ≠ 0 := fun h => absurd (congrArg Fin.val h) (by rw [val0, val1]; decide)
/-- No product but of 0 is 0. -/
theorem mul_ne {a b : Fe} (ha : a ≠ 0) (hb : b ≠ 0) : a * b ≠ 0 := fun h => by
  have h1 : a.val * b.val % pp = 0 := by have := congrArg Fin.val h; rwa [Fin.val_mul, val0] at this
  rcases pr_pp.dvd (Nat.dvd_of_mod_eq_zero h1) with h2 | h2
  · exact ne_val ha (Nat.mod_eq_zero_of_dvd h2)
  · exact ne_val hb (Nat.mod_eq_zero_of_dvd h2)
theorem mul_zero_or {a b : Fe} (h : a * b = 0) : a = 0 ∨ b = 0 := by
  by_cases ha : a = 0
  · exact .inl ha
  · by_cases hb : b = 0
    · exact .inr hb
    · exact absurd h (mul_ne ha hb)
theorem mul_cancel {a b c : Fe} (hc : c ≠ 0) (h : a * c = b * c) : a = b := by
  have h1 : (a - b) * c = 0 := by grobner
  rcases mul_zero_or h1 with h2 | h2
  · grobner
  · exact absurd h2 hc
/-- The power, of numbers. -/
def pw (a : Fe) (e : Nat) : Fe := fe (a.val ^ e)
theorem pw_fe (n e : Nat) : pw (fe n) e = fe (n ^ e) := fe_eq (by rw [fe_val]; exact (Nat.pow_mod n e pp).symm)
theorem pw_add (a : Fe) (m n : Nat) : pw a (m + n) = pw a m * pw a n := by rw [pw, Nat.pow_add, fe_mul]; rfl
theorem pw_pw (a : Fe) (m n : Nat) : pw (pw a m) n = pw a (m * n) := by
  show pw (fe (a.val ^ m)) n = fe (a.val ^ (m * n))
  rw [pw_fe, ← Nat.pow_mul]
theorem pw_mul (a b : Fe) (n : Nat) : pw (a * b) n = pw a n * pw b n := by
  have : a * b = fe (a.val * b.val) := by rw [fe_mul, fe_of, fe_of]
  rw [this, pw_fe, Nat.mul_pow, fe_mul]; rfl
theorem pw_one (a : Fe) : pw a 1 = a := by rw [pw, Nat.pow_one, fe_of]
theorem pw_two (a : Fe) : pw a 2 = a * a := by rw [show (2 : Nat) = 1 + 1 from rfl, pw_add, pw_one]
theorem pw_zero (a : Fe) : pw a 0 = 1 := rfl
theorem pw_succ (a : Fe) (n : Nat) : pw a (n + 1) = pw a n * a := by rw [pw_add, pw_one]
theorem one_pw (n : Nat) : pw 1 n = 1 := by rw [pw, val1, Nat.one_pow]; rfl
theorem pw_fermat {a : Fe} (h : a ≠ 0) (n : Nat) (hn : n = pp - 1) : pw a n = 1 := by
  rw [hn]
  exact fe_eq (b := 1) (by rw [pp_fermat (ne_val h)]; decide)
/-- A power found by squarings. -/
theorem pw_of (a e f v : Nat) (he : e < 2 ^ f) (h : pmod pp f a e 1 = v) : pw (fe a) e = fe v := by
  rw [pw_fe, ← fe_mod, pmod_one f v he h]
/-- The inverse (0 of 0), by squarings. -/
def fin (a : Fe) : Fe := fe (pmod pp 255 a.val 57896044618658097711785492504343953926634992332820282019728792003956564819947 1)
theorem fin_pw (a : Fe) {n : Nat} (hn : n = pp - 2) : fin a = pw a n := by
  obtain ⟨X, hX⟩ : ∃ X, X = 57896044618658097711785492504343953926634992332820282019728792003956564819947 := ⟨_, rfl⟩
  have e : n = X := by rw [hn, hX]; decide
  rw [fin, ← hX, pmod_eq _ _ _ _ _ (by rw [hX]; decide), Nat.one_mul, fe_mod, e]
  rfl
theorem mul_fin {a : Fe} (h : a ≠ 0) : a * fin a = 1 := by
  obtain ⟨n, hn⟩ : ∃ n, n = pp - 2 := ⟨_, rfl⟩
  rw [fin_pw a hn]
  have h1 : pw a (n + 1) = 1 := pw_fermat h _ (by rw [hn]; decide)
  rw [pw_succ] at h1
  grobner
theorem fin_mul {a : Fe} (h : a ≠ 0) : fin a * a = 1 := by have := mul_fin h; grobner
theorem fin_eq {a b : Fe} (h : a * b = 1) : fin a = b := by
  have ha : a ≠ 0 := fun h0 => one_ne (by rw [← h, h0]; grobner)
  have := mul_fin ha
  exact mul_cancel ha (by grobner)
theorem fin_ne {a : Fe} (h : a ≠ 0) : fin a ≠ 0 := fun h0 => by
  have := mul_fin h
  rw [h0] at this
  exact one_ne (by grobner)
/- Squares. -/
theorem sq_eq {a b : Fe} (h : a * a = b * b) : a = b ∨ a = -b := by
  have h1 : (a - b) * (a + b) = 0 := by grobner
  rcases mul_zero_or h1 with h2 | h2
  · left; grobner
  · right; grobner
theorem two_ne : (2 : Fe) ≠ 0 := fun h => absurd (congrArg Fin.val h) (by decide)
theorem neg_one_ne : (1 : Fe) ≠ -1 := by decide
/-- A root of -1. -/
def ii : Fe := fe 19681161376707505956807079304988542015446066515923890162744021073123829784752
theorem ii_sq : ii * ii = -1 := by
  have : ii * ii + 1 = 0 := by
    show fe _ * fe _ + fe 1 = fe 0
    rw [← fe_mul, ← fe_add]
    exact fe_eq (by decide)
  grobner
theorem euler {a s : Fe} (ha : a ≠ 0) (h : a = s * s) {n : Nat} (hn : 2 * n = pp - 1) : pw a n = 1 := by
  have hs : s ≠ 0 := fun h0 => ha (by rw [h, h0]; grobner)
  rw [h, ← pw_two, pw_pw]
  exact pw_fermat hs _ hn
end Go.Proofs.YtpfcboakafbnlaaDoor
set_option linter.unusedVariables false
namespace Go.Proofs.YtpfcboakafbnlaaDoor
/-- -121665 / 121666. -/
def dd : Fe := fe 37095705934669439343138083508754565189542113879843219016388785533085940283555
theorem dd_def : dd * 121666 = -121665 := by
  have : dd * 121666 + 121665 = 0 := by
    show fe _ * fe 121666 + fe 121665 = fe 0
    rw [← fe_mul, ← fe_add]
    exact fe_eq (by decide)
  grobner
theorem dd_ne : dd ≠ 0 := fun h => absurd (congrArg Fin.val h) (by decide)
theorem dd_half {n : Nat} (hn : n = 28948022309329048855892746252171976963317496166410141009864396001978282409974) : pw dd n = -1 := by
  have h := pw_of 37095705934669439343138083508754565189542113879843219016388785533085940283555 n 255 57896044618658097711785492504343953926634992332820282019728792003956564819948 (by rw [hn]; decide) (by rw [hn]; kernel_rfl)
  exact h.trans (by decide)
/-- d is no square. -/
theorem dd_nsq (s : Fe) : dd ≠ s * s := fun h => by
  obtain ⟨n, hn⟩ : ∃ n, n = 28948022309329048855892746252171976963317496166410141009864396001978282409974 := ⟨_, rfl⟩
  have h1 := euler dd_ne h (n := n) (by rw [hn]; decide)
  rw [dd_half hn] at h1
  exact neg_one_ne h1.symm
/-- d by a square but 0 is no square. -/
theorem dd_nsq2 {a b : Fe} (hb : b ≠ 0) : a * a ≠ dd * (b * b) := fun h => dd_nsq (a * fin b) (by
  have := mul_fin hb
  grobner)
/-- Is a pair a point? -/
def On (x y : Fe) : Prop := y * y - x * x = 1 + dd * (x * x) * (y * y)
theorem nd_aux {x1 y1 x2 y2 e : Fe} (h1 : On x1 y1) (h2 : On x2 y2) (he : e = dd * (x1 * x2) * (y1 * y2)) (hee : e * e = 1) : False := by
  unfold On at h1 h2
  have hi := ii_sq
  have hne : e ≠ 0 := fun h => one_ne (by rw [← hee, h]; grobner)
  have hx1 : x1 ≠ 0 := fun h => hne (by rw [he, h]; grobner)
  have hx2 : x2 ≠ 0 := fun h => hne (by rw [he, h]; grobner)
  have hy1 : y1 ≠ 0 := fun h => hne (by rw [he, h]; grobner)
  have a1 : (ii * x1 + e * y1) * (ii * x1 + e * y1) = dd * ((x1 * y1 * (ii * x2 + y2)) * (x1 * y1 * (ii * x2 + y2))) := by grobner
  have a2 : (ii * x1 - e * y1) * (ii * x1 - e * y1) = dd * ((x1 * y1 * (ii * x2 - y2)) * (x1 * y1 * (ii * x2 - y2))) := by grobner
  by_cases c1 : ii * x2 + y2 = 0
  · by_cases c2 : ii * x2 - y2 = 0
    · have hi0 : ii ≠ 0 := fun h => by rw [h] at hi; exact neg_one_ne (by grobner)
      exact mul_ne two_ne (mul_ne hi0 hx2) (by grobner)
    · exact dd_nsq2 (mul_ne (mul_ne hx1 hy1) c2) a2
  · exact dd_nsq2 (mul_ne (mul_ne hx1 hy1) c1) a1
theorem den1 {x1 y1 x2 y2 : Fe} (h1 : On x1 y1) (h2 : On x2 y2) : 1 + dd * (x1 * x2) * (y1 * y2) ≠ 0 := fun h => nd_aux h1 h2 rfl (by grobner)
theorem den2 {x1 y1 x2 y2 : Fe} (h1 : On x1 y1) (h2 : On x2 y2) : 1 - dd * (x1 * x2) * (y1 * y2) ≠ 0 := fun h => nd_aux h1 h2 rfl (by grobner)
/-- Points. -/
structure Pt where
  x : Fe
  y : Fe
  on : On x y
theorem Pt.ext {p q : Pt} (hx : p.x = q.x) (hy : p.y = q.y) : p = q := by
  cases p; cases q; cases hx; cases hy; rfl
theorem add_on {x1 y1 x2 y2 : Fe} (h1 : On x1 y1) (h2 : On x2 y2) :
    On ((x1 * y2 + y1 * x2) * fin (1 + dd * (x1 * x2) * (y1 * y2))) ((y1 * y2 + x1 * x2) * fin (1 - dd * (x1 * x2) * (y1 * y2))) := by
  have d1 := den1 h1 h2
  have d2 := den2 h1 h2
  have i1 := mul_fin d1
  have i2 := mul_fin d2
  unfold On at h1 h2 ⊢
  obtain ⟨k, hk⟩ : ∃ k, k = dd * (x1 * x2) * (y1 * y2) := ⟨_, rfl⟩
  rw [← hk] at d1 d2 i1 i2 ⊢
  obtain ⟨i, hi⟩ : ∃ i, i = fin (1 + k) := ⟨_, rfl⟩
  obtain ⟨j, hj⟩ : ∃ j, j = fin (1 - k) := ⟨_, rfl⟩
  rw [← hi] at i1 ⊢
  rw [← hj] at i2 ⊢
  have key : (y1 * y2 + x1 * x2) * (y1 * y2 + x1 * x2) * ((1 + k) * (1 + k)) - (x1 * y2 + y1 * x2) * (x1 * y2 + y1 * x2) * ((1 - k) * (1 - k)) = (1 + k) * (1 + k) * ((1 - k) * (1 - k)) + dd * ((x1 * y2 + y1 * x2) * (x1 * y2 + y1 * x2)) * ((y1 * y2 + x1 * x2) * (y1 * y2 + x1 * x2)) := by grobner
  obtain ⟨A, hA⟩ : ∃ A, A = x1 * y2 + y1 * x2 := ⟨_, rfl⟩
  obtain ⟨B, hB⟩ : ∃ B, B = y1 * y2 + x1 * x2 := ⟨_, rfl⟩
  obtain ⟨u, hu⟩ : ∃ u, u = 1 + k := ⟨_, rfl⟩
  obtain ⟨v, hv⟩ : ∃ v, v = 1 - k := ⟨_, rfl⟩
  rw [← hA, ← hB] at key ⊢
  rw [← hu, ← hv] at key
  rw [← hu] at i1
  rw [← hv] at i2
  clear hA hB hu hv hi hj hk d1 d2 h1 h2
  grobner
def Pt.add (p q : Pt) : Pt := ⟨(p.x * q.y + p.y * q.x) * fin (1 + dd * (p.x * q.x) * (p.y * q.y)), (p.y * q.y + p.x * q.x) * fin (1 - dd * (p.x * q.x) * (p.y * q.y)), add_on p.on q.on⟩
theorem zero_on : On 0 1 := by unfold On; grobner
def Pt.zero : Pt := ⟨0, 1, zero_on⟩
theorem neg_on {x y : Fe} (h : On x y) : On (-x) y := by unfold On at *; grobner
def Pt.neg (p : Pt) : Pt := ⟨-p.x, p.y, neg_on p.on⟩
/-- What the sum's parts are, without division. -/
theorem Pt.addX (p q : Pt) : (p.add q).x * (1 + dd * (p.x * q.x) * (p.y * q.y)) = p.x * q.y + p.y * q.x := by
  have := fin_mul (den1 p.on q.on)
  show _ * fin _ * _ = _
  grobner
theorem Pt.addY (p q : Pt) : (p.add q).y * (1 - dd * (p.x * q.x) * (p.y * q.y)) = p.y * q.y + p.x * q.x := by
  have := fin_mul (den2 p.on q.on)
  show _ * fin _ * _ = _
  grobner
theorem Pt.add_eq {p q r : Pt} (hx : r.x * (1 + dd * (p.x * q.x) * (p.y * q.y)) = p.x * q.y + p.y * q.x) (hy : r.y * (1 - dd * (p.x * q.x) * (p.y * q.y)) = p.y * q.y + p.x * q.x) : p.add q = r :=
  Pt.ext (mul_cancel (den1 p.on q.on) (by rw [Pt.addX, hx])) (mul_cancel (den2 p.on q.on) (by rw [Pt.addY, hy]))
theorem Pt.add_comm (p q : Pt) : p.add q = q.add p := by
  have h1 := q.addX p
  have h2 := q.addY p
  exact Pt.add_eq (by grobner) (by grobner)
theorem Pt.add_zero (p : Pt) : p.add Pt.zero = p := by
  refine Pt.add_eq ?_ ?_
  · show p.x * (1 + dd * (p.x * 0) * (p.y * 1)) = p.x * 1 + p.y * 0
    grobner
  · show p.y * (1 - dd * (p.x * 0) * (p.y * 1)) = p.y * 1 + p.x * 0
    grobner
theorem Pt.zero_add (p : Pt) : Pt.zero.add p = p := by rw [Pt.add_comm, Pt.add_zero]
theorem Pt.add_neg (p : Pt) : p.add p.neg = Pt.zero := by
  have h := p.on
  unfold On at h
  refine Pt.add_eq ?_ ?_
  · show 0 * (1 + dd * (p.x * -p.x) * (p.y * p.y)) = p.x * p.y + p.y * -p.x
    grobner
  · show 1 * (1 - dd * (p.x * -p.x) * (p.y * p.y)) = p.y * p.y + p.x * -p.x
    grobner
theorem Pt.neg_neg (p : Pt) : p.neg.neg = p := Pt.ext (by show - -p.x = p.x; grobner) rfl
theorem assoc_key (x1 y1 x2 y2 x3 y3 d k l : Fe) (hk : k = d * (x1 * x2) * (y1 * y2)) (hl : l = d * (x2 * x3) * (y2 * y3)) (e1 : y1 * y1 - x1 * x1 = 1 + d * (x1 * x1) * (y1 * y1)) (e2 : y2 * y2 - x2 * x2 = 1 + d * (x2 * x2) * (y2 * y2)) (e3 : y3 * y3 - x3 * x3 = 1 + d * (x3 * x3) * (y3 * y3)) :
    ((x1 * y2 + y1 * x2) * (1 - k) * y3 + (y1 * y2 + x1 * x2) * (1 + k) * x3) * ((1 - l * l) + d * (x2 * y3 + y2 * x3) * (y2 * y3 + x2 * x3) * x1 * y1)
    = ((x2 * y3 + y2 * x3) * (1 - l) * y1 + (y2 * y3 + x2 * x3) * (1 + l) * x1) * ((1 - k * k) + d * (x1 * y2 + y1 * x2) * (y1 * y2 + x1 * x2) * x3 * y3) := by grobner
theorem assoc_keyY (x1 y1 x2 y2 x3 y3 d k l : Fe) (hk : k = d * (x1 * x2) * (y1 * y2)) (hl : l = d * (x2 * x3) * (y2 * y3)) (e1 : y1 * y1 - x1 * x1 = 1 + d * (x1 * x1) * (y1 * y1)) (e2 : y2 * y2 - x2 * x2 = 1 + d * (x2 * x2) * (y2 * y2)) (e3 : y3 * y3 - x3 * x3 = 1 + d * (x3 * x3) * (y3 * y3)) :
    ((y1 * y2 + x1 * x2) * (1 + k) * y3 + (x1 * y2 + y1 * x2) * (1 - k) * x3) * ((1 - l * l) - d * (x2 * y3 + y2 * x3) * (y2 * y3 + x2 * x3) * x1 * y1)
    = ((y2 * y3 + x2 * x3) * (1 + l) * y1 + (x2 * y3 + y2 * x3) * (1 - l) * x1) * ((1 - k * k) - d * (x1 * y2 + y1 * x2) * (y1 * y2 + x1 * x2) * x3 * y3) := by grobner
theorem clearX {rx ry u v A B sx sy X d : Fe} (hx : rx * u = A) (hy : ry * v = B) (h : X * (1 + d * (rx * sx) * (ry * sy)) = rx * sy + ry * sx) : X * (u * v + d * A * B * sx * sy) = A * v * sy + B * u * sx := by subst hx hy; grobner
theorem clearY {rx ry u v A B sx sy Y d : Fe} (hx : rx * u = A) (hy : ry * v = B) (h : Y * (1 - d * (rx * sx) * (ry * sy)) = ry * sy + rx * sx) : Y * (u * v - d * A * B * sx * sy) = B * u * sy + A * v * sx := by subst hx hy; grobner
theorem clearD {rx ry u v A B sx sy d : Fe} (hx : rx * u = A) (hy : ry * v = B) (hu : u ≠ 0) (hv : v ≠ 0) (h : 1 + d * (rx * sx) * (ry * sy) ≠ 0) : u * v + d * A * B * sx * sy ≠ 0 := fun h0 => mul_ne (mul_ne hu hv) h (by subst hx hy; grobner)
theorem clearE {rx ry u v A B sx sy d : Fe} (hx : rx * u = A) (hy : ry * v = B) (hu : u ≠ 0) (hv : v ≠ 0) (h : 1 - d * (rx * sx) * (ry * sy) ≠ 0) : u * v - d * A * B * sx * sy ≠ 0 := fun h0 => mul_ne (mul_ne hu hv) h (by subst hx hy; grobner)
theorem cross {X1 X2 D1 D2 N1 N2 : Fe} (h1 : X1 * D1 = N1) (h2 : X2 * D2 = N2) (hk : N1 * D2 = N2 * D1) (n1 : D1 ≠ 0) (n2 : D2 ≠ 0) : X1 = X2 :=
  mul_cancel (mul_ne n1 n2) (by subst h1 h2; grobner)
theorem finX (x1 y1 x2 y2 x3 y3 d k l : Fe) (h : ((x1 * y2 + y1 * x2) * (1 - k) * y3 + (y1 * y2 + x1 * x2) * (1 + k) * x3) * ((1 - l * l) + d * (x2 * y3 + y2 * x3) * (y2 * y3 + x2 * x3) * x1 * y1)
    = ((x2 * y3 + y2 * x3) * (1 - l) * y1 + (y2 * y3 + x2 * x3) * (1 + l) * x1) * ((1 - k * k) + d * (x1 * y2 + y1 * x2) * (y1 * y2 + x1 * x2) * x3 * y3)) :
    ((x1 * y2 + y1 * x2) * (1 - k) * y3 + (y1 * y2 + x1 * x2) * (1 + k) * x3) * ((1 + l) * (1 - l) + d * (x2 * y3 + y2 * x3) * (y2 * y3 + x2 * x3) * x1 * y1)
    = ((x2 * y3 + y2 * x3) * (1 - l) * y1 + (y2 * y3 + x2 * x3) * (1 + l) * x1) * ((1 + k) * (1 - k) + d * (x1 * y2 + y1 * x2) * (y1 * y2 + x1 * x2) * x3 * y3) := by grobner
theorem finY (x1 y1 x2 y2 x3 y3 d k l : Fe) (h : ((y1 * y2 + x1 * x2) * (1 + k) * y3 + (x1 * y2 + y1 * x2) * (1 - k) * x3) * ((1 - l * l) - d * (x2 * y3 + y2 * x3) * (y2 * y3 + x2 * x3) * x1 * y1)
    = ((y2 * y3 + x2 * x3) * (1 + l) * y1 + (x2 * y3 + y2 * x3) * (1 - l) * x1) * ((1 - k * k) - d * (x1 * y2 + y1 * x2) * (y1 * y2 + x1 * x2) * x3 * y3)) :
    ((y1 * y2 + x1 * x2) * (1 + k) * y3 + (x1 * y2 + y1 * x2) * (1 - k) * x3) * ((1 + l) * (1 - l) - d * (x2 * y3 + y2 * x3) * (y2 * y3 + x2 * x3) * x1 * y1)
    = ((y2 * y3 + x2 * x3) * (1 + l) * y1 + (x2 * y3 + y2 * x3) * (1 - l) * x1) * ((1 + k) * (1 - k) - d * (x1 * y2 + y1 * x2) * (y1 * y2 + x1 * x2) * x3 * y3) := by grobner
/-- Sums go together. -/
theorem Pt.add_assoc (p q s : Pt) : (p.add q).add s = p.add (q.add s) := by
  have e1 := p.on
  have e2 := q.on
  have e3 := s.on
  unfold On at e1 e2 e3
  have n1 := den1 p.on q.on
  have n2 := den2 p.on q.on
  have m1 := den1 q.on s.on
  have m2 := den2 q.on s.on
  have hx := p.addX q
  have hy := p.addY q
  have gx := q.addX s
  have gy := q.addY s
  have kX := assoc_key p.x p.y q.x q.y s.x s.y dd _ _ rfl rfl e1 e2 e3
  have kY := assoc_keyY p.x p.y q.x q.y s.x s.y dd _ _ rfl rfl e1 e2 e3
  rw [Pt.add_comm p (q.add s)]
  refine Pt.ext (cross (clearX hx hy ((p.add q).addX s)) (clearX gx gy ((q.add s).addX p)) ?_ (clearD hx hy n1 n2 (den1 (p.add q).on s.on)) (clearD gx gy m1 m2 (den1 (q.add s).on p.on)))
    (cross (clearY hx hy ((p.add q).addY s)) (clearY gx gy ((q.add s).addY p)) ?_ (clearE hx hy n1 n2 (den2 (p.add q).on s.on)) (clearE gx gy m1 m2 (den2 (q.add s).on p.on)))
  · exact finX _ _ _ _ _ _ _ _ _ kX
  · exact finY _ _ _ _ _ _ _ _ _ kY
/- Sums of many. -/
def Pt.nm (p : Pt) : Nat → Pt
  | 0 => Pt.zero
  | n + 1 => (p.nm n).add p
theorem Pt.nm_zero (p : Pt) : p.nm 0 = Pt.zero := rfl
theorem Pt.nm_succ (p : Pt) (n : Nat) : p.nm (n + 1) = (p.nm n).add p := rfl
theorem Pt.nm_one (p : Pt) : p.nm 1 = p := Pt.zero_add p
theorem Pt.nm_add (p : Pt) (m : Nat) : ∀ n, p.nm (m + n) = (p.nm m).add (p.nm n)
  | 0 => (Pt.add_zero _).symm
  | n + 1 => by rw [← Nat.add_assoc, Pt.nm_succ, Pt.nm_add p m n, Pt.nm_succ, Pt.add_assoc]
theorem Pt.nm_two (p : Pt) (n : Nat) : p.nm (2 * n) = (p.nm n).add (p.nm n) := by rw [Nat.two_mul, Pt.nm_add]
theorem Pt.zero_nm : ∀ n, Pt.zero.nm n = Pt.zero
  | 0 => rfl
  | n + 1 => by rw [Pt.nm_succ, Pt.zero_nm n, Pt.add_zero]
theorem Pt.add_add (a b c d : Pt) : (a.add b).add (c.add d) = (a.add c).add (b.add d) := by
  rw [Pt.add_assoc, Pt.add_assoc, ← Pt.add_assoc b, Pt.add_comm b c, Pt.add_assoc c]
theorem Pt.add_nm (p q : Pt) : ∀ n, (p.add q).nm n = (p.nm n).add (q.nm n)
  | 0 => by rw [Pt.nm_zero, Pt.nm_zero, Pt.nm_zero, Pt.add_zero]
  | n + 1 => by rw [Pt.nm_succ, Pt.add_nm p q n, Pt.nm_succ, Pt.nm_succ, Pt.add_add]
theorem Pt.nm_mul (p : Pt) (m : Nat) : ∀ n, p.nm (m * n) = (p.nm m).nm n
  | 0 => rfl
  | n + 1 => by rw [Nat.mul_succ, Pt.nm_add, Pt.nm_mul p m n, Pt.nm_succ]
theorem Pt.neg_add (p : Pt) : p.neg.add p = Pt.zero := by rw [Pt.add_comm, Pt.add_neg]
theorem Pt.cancel {p q r : Pt} (h : p.add r = q.add r) : p = q := by
  have h1 : (p.add r).add r.neg = (q.add r).add r.neg := by rw [h]
  rwa [Pt.add_assoc, Pt.add_assoc, Pt.add_neg, Pt.add_zero, Pt.add_zero] at h1
theorem Pt.neg_eq {p q : Pt} (h : p.add q = Pt.zero) : p = q.neg := Pt.cancel (r := q) (by rw [h, Pt.neg_add])
theorem Pt.neg_sum (p q : Pt) : (p.add q).neg = p.neg.add q.neg := by
  refine (Pt.neg_eq ?_).symm
  rw [Pt.add_add, Pt.neg_add, Pt.neg_add, Pt.add_zero]
theorem Pt.neg_zero : Pt.zero.neg = Pt.zero := (Pt.neg_eq (Pt.add_zero _)).symm
theorem Pt.neg_nm (p : Pt) : ∀ n, p.neg.nm n = (p.nm n).neg
  | 0 => Pt.neg_zero.symm
  | n + 1 => by rw [Pt.nm_succ, Pt.neg_nm p n, Pt.nm_succ, Pt.neg_sum]
theorem Pt.nm_gcd (p : Pt) : ∀ m n, p.nm m = Pt.zero → p.nm n = Pt.zero → p.nm (Nat.gcd m n) = Pt.zero := by
  intro m n
  induction m, n using Nat.gcd.induction with
  | H0 n => intro _ h; simpa using h
  | H1 m n hm ih =>
    intro h1 h2
    rw [Nat.gcd_rec]
    refine ih ?_ h1
    have e : p.nm n = (p.nm (m * (n / m))).add (p.nm (n % m)) := by rw [← Pt.nm_add, Nat.div_add_mod]
    rw [Pt.nm_mul, h1, Pt.zero_nm, Pt.zero_add] at e
    rw [← e, h2]
end Go.Proofs.YtpfcboakafbnlaaDoor
set_option linter.unusedVariables false
namespace Go.Proofs.YtpfcboakafbnlaaDoor
/-- A point told by four numbers, of which the third is not 0. -/
def Rep (X Y Z T : Fe) (p : Pt) : Prop := Z ≠ 0 ∧ p.x * Z = X ∧ p.y * Z = Y ∧ T * Z = X * Y
theorem Rep.eq {X Y Z T : Fe} {p q : Pt} (h : Rep X Y Z T p) (h' : Rep X Y Z T q) : p = q :=
  Pt.ext (mul_cancel h.1 (h.2.1.trans h'.2.1.symm)) (mul_cancel h.1 (h.2.2.1.trans h'.2.2.1.symm))
/-- What T is. -/
theorem Rep.t {X Y Z T : Fe} {p : Pt} (h : Rep X Y Z T p) : T = p.x * p.y * Z := by
  obtain ⟨h0, h1, h2, h3⟩ := h
  exact mul_cancel h0 (by rw [h3]; grobner)
/-- Two points told by the same parts, up to a number. -/
theorem rep_same {X Y Z T X' Y' Z' T' : Fe} {p q : Pt} (h : Rep X Y Z T p) (h' : Rep X' Y' Z' T' q) : p = q ↔ X * Z' = X' * Z ∧ Y * Z' = Y' * Z := by
  obtain ⟨h0, h1, h2, _⟩ := h
  obtain ⟨g0, g1, g2, _⟩ := h'
  constructor
  · intro e
    subst e
    constructor <;> grobner
  · intro ⟨e1, e2⟩
    exact Pt.ext (mul_cancel (mul_ne h0 g0) (by grobner)) (mul_cancel (mul_ne h0 g0) (by grobner))
theorem rep_add {X1 Y1 Z1 T1 X2 Y2 Z2 T2 : Fe} {p q : Pt} (h1 : Rep X1 Y1 Z1 T1 p) (h2 : Rep X2 Y2 Z2 T2 q) {A B C D E F G H : Fe} (hA : A = (Y1 - X1) * (Y2 - X2)) (hB : B = (Y1 + X1) * (Y2 + X2)) (hC : C = 2 * dd * T1 * T2) (hD : D = 2 * Z1 * Z2) (hE : E = B - A) (hF : F = D - C) (hG : G = D + C) (hH : H = B + A) :
    Rep (E * F) (G * H) (F * G) (E * H) (p.add q) := by
  have t1 := h1.t
  have t2 := h2.t
  obtain ⟨z1, a1, b1, c1⟩ := h1
  obtain ⟨z2, a2, b2, c2⟩ := h2
  have n1 := den1 p.on q.on
  have n2 := den2 p.on q.on
  have sx := p.addX q
  have sy := p.addY q
  have fG : G = 2 * (Z1 * Z2) * (1 + dd * (p.x * q.x) * (p.y * q.y)) := by rw [hG, hD, hC, t1, t2]; grobner
  have fF : F = 2 * (Z1 * Z2) * (1 - dd * (p.x * q.x) * (p.y * q.y)) := by rw [hF, hD, hC, t1, t2]; grobner
  have fE : E = 2 * (Z1 * Z2) * (p.x * q.y + p.y * q.x) := by rw [hE, hB, hA, ← a1, ← b1, ← a2, ← b2]; grobner
  have fH : H = 2 * (Z1 * Z2) * (p.y * q.y + p.x * q.x) := by rw [hH, hB, hA, ← a1, ← b1, ← a2, ← b2]; grobner
  have zz : 2 * (Z1 * Z2) ≠ 0 := mul_ne two_ne (mul_ne z1 z2)
  refine ⟨?_, ?_, ?_, by grobner⟩
  · rw [fG, fF]; exact mul_ne (mul_ne zz n2) (mul_ne zz n1)
  · rw [fE, ← sx, fG]; grobner
  · rw [fH, ← sy, fF]; grobner
theorem rep_neg {X Y Z T : Fe} {p : Pt} (h : Rep X Y Z T p) : Rep (-X) Y Z (-T) p.neg := by
  obtain ⟨h0, h1, h2, h3⟩ := h
  refine ⟨h0, ?_, h2, by grobner⟩
  show -p.x * Z = -X
  grobner
theorem rep_zero : Rep 0 1 1 0 Pt.zero := ⟨one_ne, by show (0 : Fe) * 1 = 0; grobner, by show (1 : Fe) * 1 = 1; grobner, by grobner⟩
theorem rep_aff (p : Pt) : Rep p.x p.y 1 (p.x * p.y) p := ⟨one_ne, by grobner, by grobner, by grobner⟩
theorem dbl_id {x y Z d : Fe} (on : y * y - x * x = 1 + d * (x * x) * (y * y)) : x * Z * (x * Z) - y * Z * (y * Z) = -(Z * Z) * (1 + d * (x * x) * (y * y)) := by grobner
theorem dbl_id2 (x Z k : Fe) : 2 * (Z * Z) + -(Z * Z) * (1 + k) = (Z * Z) * (1 - k) := by grobner
theorem dbl_id3 (x y Z : Fe) : x * Z * (x * Z) + y * Z * (y * Z) - (x * Z + y * Z) * (x * Z + y * Z) = -(Z * Z) * (x * y + y * x) := by grobner
theorem dbl_id4 (x y Z : Fe) : x * Z * (x * Z) + y * Z * (y * Z) = (Z * Z) * (y * y + x * x) := by grobner
theorem dbl_id5 (s u v W : Fe) : s * (W * v * (-W * u)) = -W * (s * u) * (W * v) := by grobner
theorem dbl_id6 (s u v W : Fe) : s * (W * v * (-W * u)) = -W * u * (W * (s * v)) := by grobner
theorem rep_last (E F G H : Fe) : E * H * (F * G) = E * F * (G * H) := by grobner
/-- Doubling by the other formulas. -/
theorem rep_dbl {X Y Z T : Fe} {p : Pt} (h : Rep X Y Z T p) {A B C H E G F : Fe} (hA : A = X * X) (hB : B = Y * Y) (hC : C = 2 * (Z * Z)) (hH : H = A + B) (hE : E = H - (X + Y) * (X + Y)) (hG : G = A - B) (hF : F = C + G) :
    Rep (E * F) (G * H) (F * G) (E * H) (p.add p) := by
  have t := h.t
  obtain ⟨z, a, b, c⟩ := h
  have on := p.on
  unfold On at on
  have n1 := den1 p.on p.on
  have n2 := den2 p.on p.on
  have sx := p.addX p
  have sy := p.addY p
  have fG : G = -(Z * Z) * (1 + dd * (p.x * p.x) * (p.y * p.y)) := by rw [hG, hA, hB, ← a, ← b]; exact dbl_id on
  have fF : F = (Z * Z) * (1 - dd * (p.x * p.x) * (p.y * p.y)) := by rw [hF, hC, fG]; exact dbl_id2 p.x Z _
  have fE : E = -(Z * Z) * (p.x * p.y + p.y * p.x) := by rw [hE, hH, hA, hB, ← a, ← b]; exact dbl_id3 _ _ _
  have fH : H = (Z * Z) * (p.y * p.y + p.x * p.x) := by rw [hH, hB, hA, ← a, ← b]; exact dbl_id4 _ _ _
  have zz : Z * Z ≠ 0 := mul_ne z z
  have zn : -(Z * Z) ≠ 0 := fun h => zz (by grobner)
  refine ⟨?_, ?_, ?_, rep_last _ _ _ _⟩
  · rw [fG, fF]; exact mul_ne (mul_ne zz n2) (mul_ne zn n1)
  · rw [fE, ← sx, fG, fF]; exact dbl_id5 _ _ _ _
  · rw [fH, ← sy, fF, fG]; exact dbl_id6 _ _ _ _
end Go.Proofs.YtpfcboakafbnlaaDoor
set_option linter.unusedVariables false
namespace Go.Proofs.YtpfcboakafbnlaaDoor
def bxN : Nat := 15112221349535400772501151409588531511454012693041857206046113283949847762202
def byN : Nat := 46316835694926478169428394003475163141307993866256225615783033603165251855960
theorem base_on : On (fe bxN) (fe byN) := by
  unfold On
  show (fe byN * fe byN - fe bxN * fe bxN : Fe) = 1 + dd * (fe bxN * fe bxN) * (fe byN * fe byN)
  decide
/-- The base. -/
def bp : Pt := ⟨fe bxN, fe byN, base_on⟩
theorem bp_ne : bp ≠ Pt.zero := fun h => absurd (congrArg (fun p => p.x.val) h) (by decide)
/- By the kernel: numbers are found one by one. -/
def force {α : Type} (n : Nat) (k : Nat → α) : α :=
  match n with
  | 0 => k 0
  | m + 1 => k (m + 1)
theorem force_eq {α : Type} (n : Nat) (k : Nat → α) : force n k = k n := by cases n <;> rfl
def d2N : Nat := 16295367250680780974490674513165176452449235426866156013048779062215315747161
def qadd (X1 Y1 Z1 T1 X2 Y2 Z2 T2 : Nat) (k : Nat → Nat → Nat → Nat → Bool) : Bool :=
  force ((Y1 + (pp - X1)) * (Y2 + (pp - X2)) % pp) fun A =>
  force ((Y1 + X1) * (Y2 + X2) % pp) fun B =>
  force (d2N * T1 * T2 % pp) fun C =>
  force (2 * Z1 * Z2 % pp) fun D =>
  force ((B + (pp - A)) % pp) fun E =>
  force ((D + (pp - C)) % pp) fun F =>
  force ((D + C) % pp) fun G =>
  force ((B + A) % pp) fun H =>
  force (E * F % pp) fun X =>
  force (G * H % pp) fun Y =>
  force (F * G % pp) fun Z =>
  force (E * H % pp) fun T => k X Y Z T
theorem fe_sub {a b : Nat} (h : b ≤ pp) : fe (a + (pp - b)) = fe a - fe b := by
  have h1 : fe (pp - b) + fe b = 0 := by
    rw [← fe_add, Nat.sub_add_cancel h]
    exact fe_eq (by rw [Nat.mod_self]; rfl)
  rw [fe_add]
  grobner
theorem d2_eq : fe d2N = 2 * dd := by decide
def RepN (X Y Z T : Nat) (p : Pt) : Prop := X < pp ∧ Rep (fe X) (fe Y) (fe Z) (fe T) p
theorem modlt (n : Nat) : n % pp < pp := Nat.mod_lt _ (by decide)
theorem qadd_spec {X1 Y1 Z1 T1 X2 Y2 Z2 T2 : Nat} {p q : Pt} (h1 : RepN X1 Y1 Z1 T1 p) (h2 : RepN X2 Y2 Z2 T2 q) (k : Nat → Nat → Nat → Nat → Bool) :
    ∃ X Y Z T, RepN X Y Z T (p.add q) ∧ qadd X1 Y1 Z1 T1 X2 Y2 Z2 T2 k = k X Y Z T := by
  unfold qadd
  simp only [force_eq]
  refine ⟨_, _, _, _, ⟨modlt _, ?_⟩, rfl⟩
  simp only [fe_mod, fe_mul]
  refine rep_add h1.2 h2.2 (A := fe _) (B := fe _) (C := fe _) (D := fe _) ?_ ?_ ?_ ?_ (fe_sub (Nat.le_of_lt (modlt _))) (fe_sub (Nat.le_of_lt (modlt _))) (fe_add _ _) (fe_add _ _)
  · rw [fe_mod, fe_mul, fe_sub (Nat.le_of_lt h1.1), fe_sub (Nat.le_of_lt h2.1)]
  · rw [fe_mod, fe_mul, fe_add, fe_add]
  · rw [fe_mod, fe_mul, fe_mul, d2_eq]
  · rw [fe_mod, fe_mul, fe_mul]; rfl
/-- So many of a point, and one more point: bit by bit. -/
def qmul : Nat → Nat → Nat → Nat → Nat → Nat → Nat → Nat → Nat → Nat → (Nat → Nat → Nat → Nat → Bool) → Bool
  | 0, _, _, _, _, _, X, Y, Z, T, k => k X Y Z T
  | f + 1, n, A, B, C, D, X, Y, Z, T, k =>
    bif Nat.beq (n % 2) 1 then
      qadd X Y Z T A B C D fun X' Y' Z' T' => qadd A B C D A B C D fun A' B' C' D' => force (n / 2) fun m => qmul f m A' B' C' D' X' Y' Z' T' k
    else qadd A B C D A B C D fun A' B' C' D' => force (n / 2) fun m => qmul f m A' B' C' D' X Y Z T k
theorem qmul_spec (k : Nat → Nat → Nat → Nat → Bool) : ∀ (f n : Nat) {A B C D X Y Z T : Nat} {p q : Pt}, n < 2 ^ f → RepN A B C D p → RepN X Y Z T q →
    ∃ X' Y' Z' T', RepN X' Y' Z' T' (q.add (p.nm n)) ∧ qmul f n A B C D X Y Z T k = k X' Y' Z' T'
  | 0, n, A, B, C, D, X, Y, Z, T, p, q, hn, hp, hq => by
    obtain rfl : n = 0 := by simpa using hn
    exact ⟨X, Y, Z, T, by rw [Pt.nm_zero, Pt.add_zero]; exact hq, rfl⟩
  | f + 1, n, A, B, C, D, X, Y, Z, T, p, q, hn, hp, hq => by
    have hm : n / 2 < 2 ^ f := by rw [Nat.pow_succ] at hn; omega
    unfold qmul
    have h2 : n % 2 = 0 ∨ n % 2 = 1 := by omega
    rcases h2 with h2 | h2
    · rw [h2]
      show ∃ X' Y' Z' T', RepN X' Y' Z' T' (q.add (p.nm n)) ∧ (qadd A B C D A B C D fun A' B' C' D' => force (n / 2) fun m => qmul f m A' B' C' D' X Y Z T k) = k X' Y' Z' T'
      obtain ⟨A', B', C', D', hp', e⟩ := qadd_spec hp hp (fun A' B' C' D' => force (n / 2) fun m => qmul f m A' B' C' D' X Y Z T k)
      rw [e, force_eq]
      obtain ⟨X', Y', Z', T', hr, e2⟩ := qmul_spec k f (n / 2) hm hp' hq
      refine ⟨X', Y', Z', T', ?_, e2⟩
      have e3 : p.nm n = (p.add p).nm (n / 2) := by
        rw [show n = 2 * (n / 2) by omega, Pt.nm_two, Pt.add_nm, show 2 * (n / 2) / 2 = n / 2 by omega]
      rw [e3]; exact hr
    · rw [h2]
      show ∃ X' Y' Z' T', RepN X' Y' Z' T' (q.add (p.nm n)) ∧ (qadd X Y Z T A B C D fun X' Y' Z' T' => qadd A B C D A B C D fun A' B' C' D' => force (n / 2) fun m => qmul f m A' B' C' D' X' Y' Z' T' k) = k X' Y' Z' T'
      obtain ⟨X1, Y1, Z1, T1, hq', e0⟩ := qadd_spec hq hp (fun X' Y' Z' T' => qadd A B C D A B C D fun A' B' C' D' => force (n / 2) fun m => qmul f m A' B' C' D' X' Y' Z' T' k)
      rw [e0]
      obtain ⟨A', B', C', D', hp', e⟩ := qadd_spec hp hp (fun A' B' C' D' => force (n / 2) fun m => qmul f m A' B' C' D' X1 Y1 Z1 T1 k)
      rw [e, force_eq]
      obtain ⟨X', Y', Z', T', hr, e2⟩ := qmul_spec k f (n / 2) hm hp' hq'
      refine ⟨X', Y', Z', T', ?_, e2⟩
      have e3 : q.add (p.nm n) = (q.add p).add ((p.add p).nm (n / 2)) := by
        have e4 : n = 1 + 2 * (n / 2) := by omega
        have e5 : p.nm n = p.add (p.nm (2 * (n / 2))) := by
          have e6 : p.nm (1 + 2 * (n / 2)) = p.add (p.nm (2 * (n / 2))) := by rw [Pt.nm_add, Pt.nm_one]
          rwa [← e4] at e6
        rw [Pt.add_nm, ← Pt.nm_two, Pt.add_assoc, e5]
      rw [e3]; exact hr
def LN : Nat := 7237005577332262213973186563042994240857116359379907606001950938285454250989
def btN : Nat := 46827403850823179245072216630277197565144205554125654976674165829533817101731
def isZ (X Y Z T : Nat) : Bool := Nat.beq X 0 && Nat.beq (Y % pp) (Z % pp)
theorem qmul_L : qmul 253 LN bxN byN 1 btN 0 1 1 0 isZ = true := by kernel_rfl
theorem bp_rep : RepN bxN byN 1 btN bp := by
  refine ⟨by decide, one_ne, ?_, ?_, ?_⟩
  · show fe bxN * fe 1 = fe bxN
    rw [fe_one]; grobner
  · show fe byN * fe 1 = fe byN
    rw [fe_one]; grobner
  · decide
theorem zero_rep : RepN 0 1 1 0 Pt.zero := ⟨by decide, rep_zero⟩
/-- L of the base are the neutral one. -/
theorem bp_L : bp.nm LN = Pt.zero := by
  obtain ⟨X, Y, Z, T, h, e⟩ := qmul_spec isZ 253 LN (by decide) bp_rep zero_rep
  rw [qmul_L] at e
  rw [Pt.zero_add] at h
  have e' := e.symm
  unfold isZ at e'
  rw [Bool.and_eq_true] at e'
  have e1 := Nat.eq_of_beq_eq_true e'.1
  have e2 := Nat.eq_of_beq_eq_true e'.2
  refine (rep_same h.2 rep_zero).2 ⟨?_, ?_⟩
  · rw [e1, fe_zero]; grobner
  · have := fe_eq e2
    rw [this]; grobner
def copL : Nat → Bool
  | 0 => true
  | k + 1 => Nat.beq (Nat.gcd (k + 1) LN) 1 && copL k
theorem copL_spec : ∀ n, copL n = true → ∀ k, 0 < k → k ≤ n → Nat.gcd k LN = 1
  | 0, _, k, h1, h2 => by omega
  | n + 1, h, k, h1, h2 => by
    unfold copL at h
    rw [Bool.and_eq_true] at h
    by_cases he : k = n + 1
    · rw [he]; exact Nat.eq_of_beq_eq_true h.1
    · exact copL_spec n h.2 k h1 (by omega)
theorem copL255 : copL 255 = true := by kernel_rfl
/-- Fewer than 256 are not (but none). -/
theorem bp_few {k : Nat} (h : k < 256) : bp.nm k = Pt.zero ↔ k = 0 := by
  constructor
  · intro hk
    apply Classical.byContradiction
    intro h0
    have h1 := Pt.nm_gcd bp k LN hk bp_L
    have h2 := copL_spec 255 copL255 k (by omega) (by omega)
    rw [h2, Pt.nm_one] at h1
    exact bp_ne h1
  · intro h0
    rw [h0]; rfl
/-- L less one of the base are its negative. -/
theorem bp_back {n : Nat} (h : n + 1 = LN) : bp.nm n = bp.neg := by
  have h1 := bp_L
  rw [← h, Pt.nm_succ] at h1
  exact Pt.neg_eq h1
end Go.Proofs.YtpfcboakafbnlaaDoor
set_option linter.unusedVariables false
namespace Go.Proofs.YtpfcboakafbnlaaDoor
def IsSq (a : Fe) : Prop := ∃ s, a = s * s
theorem zero_pw (n : Nat) : pw 0 (n + 1) = 0 := by rw [pw_succ]; grobner
theorem pw_sq {a : Fe} (ha : IsSq a) {n : Nat} (hn : 2 * n = pp - 1) : a ≠ 0 → pw a n = 1 := fun h => by
  obtain ⟨s, hs⟩ := ha
  exact euler h hs hn
/-- The power of (p + 3) / 8 is a root, up to a root of -1. -/
theorem root_or {a : Fe} (ha : IsSq a) {e : Nat} (he : 8 * e = pp + 3) : pw a e * pw a e = a ∨ (pw a e * ii) * (pw a e * ii) = a := by
  by_cases h0 : a = 0
  · left
    obtain ⟨n, rfl⟩ : ∃ n, e = n + 1 := ⟨e - 1, by have : 0 < pp := by decide
                                                   omega⟩
    rw [h0, zero_pw]; grobner
  · obtain ⟨n, hn⟩ : ∃ n, 4 * e = n + 2 := ⟨4 * e - 2, by have : 0 < pp := by decide
                                                          omega⟩
    have h2 : 2 * n = pp - 1 := by have : 0 < pp := by decide
                                   omega
    have h4 : (pw a e * pw a e) * (pw a e * pw a e) = a * a := by
      rw [← pw_add, ← pw_add, show e + e + (e + e) = 4 * e by omega, hn, pw_add, pw_sq ha h2 h0, pw_two]; grobner
    have hi := ii_sq
    rcases sq_eq h4 with h | h
    · exact .inl h
    · right; grobner
/-- 2 to the power of (p - 1) / 4 is the root of -1. -/
theorem pw2_quarter {n : Nat} (hn : n = 14474011154664524427946373126085988481658748083205070504932198000989141204987) : pw (fe 2) n = ii :=
  pw_of 2 n 255 19681161376707505956807079304988542015446066515923890162744021073123829784752 (by rw [hn]; decide) (by rw [hn]; kernel_rfl)
/-- The square of x that goes with y. -/
def av (y : Fe) : Fe := (y * y - 1) * fin (dd * (y * y) + 1)
theorem v_ne (y : Fe) : dd * (y * y) + 1 ≠ 0 := fun h => by
  by_cases hy : y = 0
  · have h1 : dd * (y * y) + 1 = 1 := by clear h; grobner
    exact one_ne (h1.symm.trans h)
  · have hi := ii_sq
    exact dd_nsq2 (a := ii) hy (by grobner)
theorem on_iff (x y : Fe) : On x y ↔ x * x = av y := by
  have hv := mul_fin (v_ne y)
  unfold On av
  constructor
  · intro h; exact mul_cancel (v_ne y) (by grobner)
  · intro h; grobner
theorem Pt.sq (p : Pt) : p.x * p.x = av p.y := (on_iff _ _).1 p.on
/- Odd and even. -/
theorem neg_val {x : Fe} (h : x ≠ 0) : (-x).val = pp - x.val := by
  have h1 : x.val ≠ 0 := fun h0 => h (Fin.ext h0)
  have h2 := x.isLt
  rw [Fin.neg_def]
  show (pp - x.val) % pp = pp - x.val
  exact Nat.mod_eq_of_lt (by omega)
theorem neg_par {x : Fe} (h : x ≠ 0) : (-x).val % 2 = 1 - x.val % 2 := by
  have h2 := x.isLt
  have h3 : pp % 2 = 1 := by decide
  rw [neg_val h]
  omega
theorem neg_ne {x : Fe} (h : x ≠ 0) : x ≠ -x := fun h0 => by
  have := neg_par h
  rw [← h0] at this
  omega
/-- A point's number. -/
def t255 : Nat := 57896044618658097711785492504343953926634992332820282019728792003956564819968
def Pt.enc (p : Pt) : Nat := p.y.val + t255 * (p.x.val % 2)
theorem pp_t : pp + 19 = t255 := by decide
theorem Pt.enc_lt (p : Pt) : p.enc < 2 * t255 := by
  have h1 := p.y.isLt
  have h2 := pp_t
  unfold Pt.enc
  rcases (by omega : p.x.val % 2 = 0 ∨ p.x.val % 2 = 1) with h | h <;> rw [h] <;> omega
theorem Pt.enc_y (p : Pt) : p.enc % t255 = p.y.val := by
  have h1 := p.y.isLt
  have h2 := pp_t
  unfold Pt.enc
  rw [Nat.add_mul_mod_self_left, Nat.mod_eq_of_lt (by omega)]
theorem Pt.enc_odd (p : Pt) : p.enc / t255 = p.x.val % 2 := by
  have h1 := p.y.isLt
  have h2 := pp_t
  unfold Pt.enc
  rw [Nat.add_mul_div_left _ _ (by omega), Nat.div_eq_of_lt (by omega), Nat.zero_add]
theorem Pt.eq_of_y {p q : Pt} (hy : p.y = q.y) (hx : p.x.val % 2 = q.x.val % 2) : p = q := by
  have h1 := p.sq
  have h2 := q.sq
  rw [hy, ← h2] at h1
  refine Pt.ext ?_ hy
  rcases sq_eq h1 with h | h
  · exact h
  · by_cases h0 : q.x = 0
    · rw [h, h0]; grobner
    · have := neg_par h0
      rw [← h, hx] at this
      omega
theorem Pt.enc_inj {p q : Pt} (h : p.enc = q.enc) : p = q :=
  Pt.eq_of_y (Fin.ext (by rw [← p.enc_y, ← q.enc_y, h])) (by rw [← p.enc_odd, ← q.enc_odd, h])
/-- The other point of the same y. -/
theorem Pt.neg_enc (p : Pt) (h : p ≠ p.neg) : p.neg.enc = (if p.x.val % 2 = 1 then p.enc - t255 else p.enc + t255) := by
  have h0 : p.x ≠ 0 := fun h0 => h (Pt.ext (by show p.x = -p.x; rw [h0]; grobner) rfl)
  have h1 := neg_par h0
  unfold Pt.enc
  show p.y.val + t255 * ((-p.x).val % 2) = _
  rw [h1]
  split
  · rename_i hh; rw [hh]; omega
  · rename_i hh; rw [show p.x.val % 2 = 0 by omega]; omega
/-- The point of a root and an oddness. -/
theorem of_root {y r : Fe} (hr : r * r = av y) (b : Nat) (hb : b < 2) (h : r ≠ 0 ∨ b = 0) :
    ∃ p : Pt, p.y = y ∧ p.x = (if r.val % 2 = b then r else -r) ∧ p.x.val % 2 = b := by
  by_cases hp : r.val % 2 = b
  · exact ⟨⟨r, y, (on_iff _ _).2 hr⟩, rfl, by rw [if_pos hp], hp⟩
  · have h0 : r ≠ 0 := by
      rcases h with h | h
      · exact h
      · intro h0; rw [h0, h] at hp; exact hp rfl
    refine ⟨⟨-r, y, (on_iff _ _).2 (by rw [← hr]; grobner)⟩, rfl, by rw [if_neg hp], ?_⟩
    show (-r).val % 2 = b
    rw [neg_par h0]; omega
/-- Which numbers are those of points. -/
theorem enc_iff (n : Nat) (hn : n < 2 * t255) : (∃ p : Pt, p.enc = n) ↔ n % t255 < pp ∧ IsSq (av (fe (n % t255))) ∧ (av (fe (n % t255)) = 0 → n / t255 = 0) := by
  have ht : 0 < t255 := by decide
  constructor
  · rintro ⟨p, rfl⟩
    rw [p.enc_y, p.enc_odd, fe_of]
    refine ⟨p.y.isLt, ⟨p.x, p.sq.symm⟩, fun h => ?_⟩
    rw [← p.sq] at h
    rcases mul_zero_or h with h | h <;> rw [h] <;> rfl
  · rintro ⟨h1, ⟨s, hs⟩, h3⟩
    have hb : n / t255 < 2 := by rw [Nat.div_lt_iff_lt_mul ht]; omega
    obtain ⟨p, e1, e2, e3⟩ := of_root hs.symm (n / t255) hb (by
      by_cases h0 : s = 0
      · right; exact h3 (by rw [hs, h0]; grobner)
      · left; exact h0)
    refine ⟨p, ?_⟩
    unfold Pt.enc
    rw [e1, e3, fe_val, Nat.mod_eq_of_lt h1, Nat.mod_add_div]
end Go.Proofs.YtpfcboakafbnlaaDoor
