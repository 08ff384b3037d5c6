/-
  The curve's points are a group: sums have no 0 below them, are points, and go together. Plain mathematics: nothing of the program stands here.
-/
import Derived.Test.YtpfcboakafbnlaaDoorCFp
set_option linter.unusedVariables false
namespace Go.Proofs.YtpfcboakafbnlaaDoor
/-- -121665 / 121666. -/
def dd : Fe := fe 37095705934669439343138083508754565189542113879843219016388785533085940283555
theorem dd_def : dd * 121666 = -121665 := by
  have : dd * 121666 + 121665 = 0 := by
    show fe _ * fe 121666 + fe 121665 = fe 0
    rw [← fe_mul, ← fe_add]
    exact fe_eq (by decide)
  grobner
theorem dd_ne : dd ≠ 0 := fun h => absurd (congrArg Fin.val h) (by decide)
theorem dd_half {n : Nat} (hn : n = 28948022309329048855892746252171976963317496166410141009864396001978282409974) : pw dd n = -1 := by
  have h := pw_of 37095705934669439343138083508754565189542113879843219016388785533085940283555 n 255 57896044618658097711785492504343953926634992332820282019728792003956564819948 (by rw [hn]; decide) (by rw [hn]; kernel_rfl)
  exact h.trans (by decide)
/-- d is no square. -/
theorem dd_nsq (s : Fe) : dd ≠ s * s := fun h => by
  obtain ⟨n, hn⟩ : ∃ n, n = 28948022309329048855892746252171976963317496166410141009864396001978282409974 := ⟨_, rfl⟩
  have h1 := euler dd_ne h (n := n) (by rw [hn]; decide)
  rw [dd_half hn] at h1
  exact neg_one_ne h1.symm
/-- d by a square but 0 is no square. -/
theorem dd_nsq2 {a b : Fe} (hb : b ≠ 0) : a * a ≠ dd * (b * b) := fun h => dd_nsq (a * fin b) (by
  have := mul_fin hb
  grobner)
/-- Is a pair a point? -/
def On (x y : Fe) : Prop := y * y - x * x = 1 + dd * (x * x) * (y * y)
theorem nd_aux {x1 y1 x2 y2 e : Fe} (h1 : On x1 y1) (h2 : On x2 y2) (he : e = dd * (x1 * x2) * (y1 * y2)) (hee : e * e = 1) : False := by
  unfold On at h1 h2
  have hi := ii_sq
  have hne : e ≠ 0 := fun h => one_ne (by rw [← hee, h]; grobner)
  have hx1 : x1 ≠ 0 := fun h => hne (by rw [he, h]; grobner)
  have hx2 : x2 ≠ 0 := fun h => hne (by rw [he, h]; grobner)
  have hy1 : y1 ≠ 0 := fun h => hne (by rw [he, h]; grobner)
  have a1 : (ii * x1 + e * y1) * (ii * x1 + e * y1) = dd * ((x1 * y1 * (ii * x2 + y2)) * (x1 * y1 * (ii * x2 + y2))) := by grobner
  have a2 : (ii * x1 - e * y1) * (ii * x1 - e * y1) = dd * ((x1 * y1 * (ii * x2 - y2)) * (x1 * y1 * (ii * x2 - y2))) := by grobner
  by_cases c1 : ii * x2 + y2 = 0
  · by_cases c2 : ii * x2 - y2 = 0
    · have hi0 : ii ≠ 0 := fun h => by rw [h] at hi; exact neg_one_ne (by grobner)
      exact mul_ne two_ne (mul_ne hi0 hx2) (by grobner)
    · exact dd_nsq2 (mul_ne (mul_ne hx1 hy1) c2) a2
  · exact dd_nsq2 (mul_ne (mul_ne hx1 hy1) c1) a1
theorem den1 {x1 y1 x2 y2 : Fe} (h1 : On x1 y1) (h2 : On x2 y2) : 1 + dd * (x1 * x2) * (y1 * y2) ≠ 0 := fun h => nd_aux h1 h2 rfl (by grobner)
theorem den2 {x1 y1 x2 y2 : Fe} (h1 : On x1 y1) (h2 : On x2 y2) : 1 - dd * (x1 * x2) * (y1 * y2) ≠ 0 := fun h => nd_aux h1 h2 rfl (by grobner)
/-- Points. -/
structure Pt where
  x : Fe
  y : Fe
  on : On x y
theorem Pt.ext {p q : Pt} (hx : p.x = q.x) (hy : p.y = q.y) : p = q := by
  cases p; cases q; cases hx; cases hy; rfl
theorem add_on {x1 y1 x2 y2 : Fe} (h1 : On x1 y1) (h2 : On x2 y2) :
    On ((x1 * y2 + y1 * x2) * fin (1 + dd * (x1 * x2) * (y1 * y2))) ((y1 * y2 + x1 * x2) * fin (1 - dd * (x1 * x2) * (y1 * y2))) := by
  have d1 := den1 h1 h2
  have d2 := den2 h1 h2
  have i1 := mul_fin d1
  have i2 := mul_fin d2
  unfold On at h1 h2 ⊢
  obtain ⟨k, hk⟩ : ∃ k, k = dd * (x1 * x2) * (y1 * y2) := ⟨_, rfl⟩
  rw [← hk] at d1 d2 i1 i2 ⊢
  obtain ⟨i, hi⟩ : ∃ i, i = fin (1 + k) := ⟨_, rfl⟩
  obtain ⟨j, hj⟩ : ∃ j, j = fin (1 - k) := ⟨_, rfl⟩
  rw [← hi] at i1 ⊢
  rw [← hj] at i2 ⊢
  have key : (y1 * y2 + x1 * x2) * (y1 * y2 + x1 * x2) * ((1 + k) * (1 + k)) - (x1 * y2 + y1 * x2) * (x1 * y2 + y1 * x2) * ((1 - k) * (1 - k)) = (1 + k) * (1 + k) * ((1 - k) * (1 - k)) + dd * ((x1 * y2 + y1 * x2) * (x1 * y2 + y1 * x2)) * ((y1 * y2 + x1 * x2) * (y1 * y2 + x1 * x2)) := by grobner
  obtain ⟨A, hA⟩ : ∃ A, A = x1 * y2 + y1 * x2 := ⟨_, rfl⟩
  obtain ⟨B, hB⟩ : ∃ B, B = y1 * y2 + x1 * x2 := ⟨_, rfl⟩
  obtain ⟨u, hu⟩ : ∃ u, u = 1 + k := ⟨_, rfl⟩
  obtain ⟨v, hv⟩ : ∃ v, v = 1 - k := ⟨_, rfl⟩
  rw [← hA, ← hB] at key ⊢
  rw [← hu, ← hv] at key
  rw [← hu] at i1
  rw [← hv] at i2
  clear hA hB hu hv hi hj hk d1 d2 h1 h2
  grobner
def Pt.add (p q : Pt) : Pt := ⟨(p.x * q.y + p.y * q.x) * fin (1 + dd * (p.x * q.x) * (p.y * q.y)), (p.y * q.y + p.x * q.x) * fin (1 - dd * (p.x * q.x) * (p.y * q.y)), add_on p.on q.on⟩
theorem zero_on : On 0 1 := by unfold On; grobner
def Pt.zero : Pt := ⟨0, 1, zero_on⟩
theorem neg_on {x y : Fe} (h : On x y) : On (-x) y := by unfold On at *; grobner
def Pt.neg (p : Pt) : Pt := ⟨-p.x, p.y, neg_on p.on⟩
/-- What the sum's parts are, without division. -/
theorem Pt.addX (p q : Pt) : (p.add q).x * (1 + dd * (p.x * q.x) * (p.y * q.y)) = p.x * q.y + p.y * q.x := by
  have := fin_mul (den1 p.on q.on)
  show _ * fin _ * _ = _
  grobner
theorem Pt.addY (p q : Pt) : (p.add q).y * (1 - dd * (p.x * q.x) * (p.y * q.y)) = p.y * q.y + p.x * q.x := by
  have := fin_mul (den2 p.on q.on)
  show _ * fin _ * _ = _
  grobner
theorem Pt.add_eq {p q r : Pt} (hx : r.x * (1 + dd * (p.x * q.x) * (p.y * q.y)) = p.x * q.y + p.y * q.x) (hy : r.y * (1 - dd * (p.x * q.x) * (p.y * q.y)) = p.y * q.y + p.x * q.x) : p.add q = r :=
  Pt.ext (mul_cancel (den1 p.on q.on) (by rw [Pt.addX, hx])) (mul_cancel (den2 p.on q.on) (by rw [Pt.addY, hy]))
theorem Pt.add_comm (p q : Pt) : p.add q = q.add p := by
  have h1 := q.addX p
  have h2 := q.addY p
  exact Pt.add_eq (by grobner) (by grobner)
theorem Pt.add_zero (p : Pt) : p.add Pt.zero = p := by
  refine Pt.add_eq ?_ ?_
  · show p.x * (1 + dd * (p.x * 0) * (p.y * 1)) = p.x * 1 + p.y * 0
    grobner
  · show p.y * (1 - dd * (p.x * 0) * (p.y * 1)) = p.y * 1 + p.x * 0
    grobner
theorem Pt.zero_add (p : Pt) : Pt.zero.add p = p := by rw [Pt.add_comm, Pt.add_zero]
theorem Pt.add_neg (p : Pt) : p.add p.neg = Pt.zero := by
  have h := p.on
  unfold On at h
  refine Pt.add_eq ?_ ?_
  · show 0 * (1 + dd * (p.x * -p.x) * (p.y * p.y)) = p.x * p.y + p.y * -p.x
    grobner
  · show 1 * (1 - dd * (p.x * -p.x) * (p.y * p.y)) = p.y * p.y + p.x * -p.x
    grobner
theorem Pt.neg_neg (p : Pt) : p.neg.neg = p := Pt.ext (by show - -p.x = p.x; grobner) rfl
theorem assoc_key (x1 y1 x2 y2 x3 y3 d k l : Fe) (hk : k = d * (x1 * x2) * (y1 * y2)) (hl : l = d * (x2 * x3) * (y2 * y3)) (e1 : y1 * y1 - x1 * x1 = 1 + d * (x1 * x1) * (y1 * y1)) (e2 : y2 * y2 - x2 * x2 = 1 + d * (x2 * x2) * (y2 * y2)) (e3 : y3 * y3 - x3 * x3 = 1 + d * (x3 * x3) * (y3 * y3)) :
    ((x1 * y2 + y1 * x2) * (1 - k) * y3 + (y1 * y2 + x1 * x2) * (1 + k) * x3) * ((1 - l * l) + d * (x2 * y3 + y2 * x3) * (y2 * y3 + x2 * x3) * x1 * y1)
    = ((x2 * y3 + y2 * x3) * (1 - l) * y1 + (y2 * y3 + x2 * x3) * (1 + l) * x1) * ((1 - k * k) + d * (x1 * y2 + y1 * x2) * (y1 * y2 + x1 * x2) * x3 * y3) := by grobner
theorem assoc_keyY (x1 y1 x2 y2 x3 y3 d k l : Fe) (hk : k = d * (x1 * x2) * (y1 * y2)) (hl : l = d * (x2 * x3) * (y2 * y3)) (e1 : y1 * y1 - x1 * x1 = 1 + d * (x1 * x1) * (y1 * y1)) (e2 : y2 * y2 - x2 * x2 = 1 + d * (x2 * x2) * (y2 * y2)) (e3 : y3 * y3 - x3 * x3 = 1 + d * (x3 * x3) * (y3 * y3)) :
    ((y1 * y2 + x1 * x2) * (1 + k) * y3 + (x1 * y2 + y1 * x2) * (1 - k) * x3) * ((1 - l * l) - d * (x2 * y3 + y2 * x3) * (y2 * y3 + x2 * x3) * x1 * y1)
    = ((y2 * y3 + x2 * x3) * (1 + l) * y1 + (x2 * y3 + y2 * x3) * (1 - l) * x1) * ((1 - k * k) - d * (x1 * y2 + y1 * x2) * (y1 * y2 + x1 * x2) * x3 * y3) := by grobner
theorem clearX {rx ry u v A B sx sy X d : Fe} (hx : rx * u = A) (hy : ry * v = B) (h : X * (1 + d * (rx * sx) * (ry * sy)) = rx * sy + ry * sx) : X * (u * v + d * A * B * sx * sy) = A * v * sy + B * u * sx := by subst hx hy; grobner
theorem clearY {rx ry u v A B sx sy Y d : Fe} (hx : rx * u = A) (hy : ry * v = B) (h : Y * (1 - d * (rx * sx) * (ry * sy)) = ry * sy + rx * sx) : Y * (u * v - d * A * B * sx * sy) = B * u * sy + A * v * sx := by subst hx hy; grobner
theorem clearD {rx ry u v A B sx sy d : Fe} (hx : rx * u = A) (hy : ry * v = B) (hu : u ≠ 0) (hv : v ≠ 0) (h : 1 + d * (rx * sx) * (ry * sy) ≠ 0) : u * v + d * A * B * sx * sy ≠ 0 := fun h0 => mul_ne (mul_ne hu hv) h (by subst hx hy; grobner)
theorem clearE {rx ry u v A B sx sy d : Fe} (hx : rx * u = A) (hy : ry * v = B) (hu : u ≠ 0) (hv : v ≠ 0) (h : 1 - d * (rx * sx) * (ry * sy) ≠ 0) : u * v - d * A * B * sx * sy ≠ 0 := fun h0 => mul_ne (mul_ne hu hv) h (by subst hx hy; grobner)
theorem cross {X1 X2 D1 D2 N1 N2 : Fe} (h1 : X1 * D1 = N1) (h2 : X2 * D2 = N2) (hk : N1 * D2 = N2 * D1) (n1 : D1 ≠ 0) (n2 : D2 ≠ 0) : X1 = X2 :=
  mul_cancel (mul_ne n1 n2) (by subst h1 h2; grobner)
theorem finX (x1 y1 x2 y2 x3 y3 d k l : Fe) (h : ((x1 * y2 + y1 * x2) * (1 - k) * y3 + (y1 * y2 + x1 * x2) * (1 + k) * x3) * ((1 - l * l) + d * (x2 * y3 + y2 * x3) * (y2 * y3 + x2 * x3) * x1 * y1)
    = ((x2 * y3 + y2 * x3) * (1 - l) * y1 + (y2 * y3 + x2 * x3) * (1 + l) * x1) * ((1 - k * k) + d * (x1 * y2 + y1 * x2) * (y1 * y2 + x1 * x2) * x3 * y3)) :
    ((x1 * y2 + y1 * x2) * (1 - k) * y3 + (y1 * y2 + x1 * x2) * (1 + k) * x3) * ((1 + l) * (1 - l) + d * (x2 * y3 + y2 * x3) * (y2 * y3 + x2 * x3) * x1 * y1)
    = ((x2 * y3 + y2 * x3) * (1 - l) * y1 + (y2 * y3 + x2 * x3) * (1 + l) * x1) * ((1 + k) * (1 - k) + d * (x1 * y2 + y1 * x2) * (y1 * y2 + x1 * x2) * x3 * y3) := by grobner
theorem finY (x1 y1 x2 y2 x3 y3 d k l : Fe) (h : ((y1 * y2 + x1 * x2) * (1 + k) * y3 + (x1 * y2 + y1 * x2) * (1 - k) * x3) * ((1 - l * l) - d * (x2 * y3 + y2 * x3) * (y2 * y3 + x2 * x3) * x1 * y1)
    = ((y2 * y3 + x2 * x3) * (1 + l) * y1 + (x2 * y3 + y2 * x3) * (1 - l) * x1) * ((1 - k * k) - d * (x1 * y2 + y1 * x2) * (y1 * y2 + x1 * x2) * x3 * y3)) :
    ((y1 * y2 + x1 * x2) * (1 + k) * y3 + (x1 * y2 + y1 * x2) * (1 - k) * x3) * ((1 + l) * (1 - l) - d * (x2 * y3 + y2 * x3) * (y2 * y3 + x2 * x3) * x1 * y1)
    = ((y2 * y3 + x2 * x3) * (1 + l) * y1 + (x2 * y3 + y2 * x3) * (1 - l) * x1) * ((1 + k) * (1 - k) - d * (x1 * y2 + y1 * x2) * (y1 * y2 + x1 * x2) * x3 * y3) := by grobner
/-- Sums go together. -/
theorem Pt.add_assoc (p q s : Pt) : (p.add q).add s = p.add (q.add s) := by
  have e1 := p.on
  have e2 := q.on
  have e3 := s.on
  unfold On at e1 e2 e3
  have n1 := den1 p.on q.on
  have n2 := den2 p.on q.on
  have m1 := den1 q.on s.on
  have m2 := den2 q.on s.on
  have hx := p.addX q
  have hy := p.addY q
  have gx := q.addX s
  have gy := q.addY s
  have kX := assoc_key p.x p.y q.x q.y s.x s.y dd _ _ rfl rfl e1 e2 e3
  have kY := assoc_keyY p.x p.y q.x q.y s.x s.y dd _ _ rfl rfl e1 e2 e3
  rw [Pt.add_comm p (q.add s)]
  refine Pt.ext (cross (clearX hx hy ((p.add q).addX s)) (clearX gx gy ((q.add s).addX p)) ?_ (clearD hx hy n1 n2 (den1 (p.add q).on s.on)) (clearD gx gy m1 m2 (den1 (q.add s).on p.on)))
    (cross (clearY hx hy ((p.add q).addY s)) (clearY gx gy ((q.add s).addY p)) ?_ (clearE hx hy n1 n2 (den2 (p.add q).on s.on)) (clearE gx gy m1 m2 (den2 (q.add s).on p.on)))
  · exact finX _ _ _ _ _ _ _ _ _ kX
  · exact finY _ _ _ _ _ _ _ _ _ kY
/- Sums of many. -/
def Pt.nm (p : Pt) : Nat → Pt
  | 0 => Pt.zero
  | n + 1 => (p.nm n).add p
theorem Pt.nm_zero (p : Pt) : p.nm 0 = Pt.zero := rfl
theorem Pt.nm_succ (p : Pt) (n : Nat) : p.nm (n + 1) = (p.nm n).add p := rfl
theorem Pt.nm_one (p : Pt) : p.nm 1 = p := Pt.zero_add p
theorem Pt.nm_add (p : Pt) (m : Nat) : ∀ n, p.nm (m + n) = (p.nm m).add (p.nm n)
  | 0 => (Pt.add_zero _).symm
  | n + 1 => by rw [← Nat.add_assoc, Pt.nm_succ, Pt.nm_add p m n, Pt.nm_succ, Pt.add_assoc]
theorem Pt.nm_two (p : Pt) (n : Nat) : p.nm (2 * n) = (p.nm n).add (p.nm n) := by rw [Nat.two_mul, Pt.nm_add]
theorem Pt.zero_nm : ∀ n, Pt.zero.nm n = Pt.zero
  | 0 => rfl
  | n + 1 => by rw [Pt.nm_succ, Pt.zero_nm n, Pt.add_zero]
theorem Pt.add_add (a b c d : Pt) : (a.add b).add (c.add d) = (a.add c).add (b.add d) := by
  rw [Pt.add_assoc, Pt.add_assoc, ← Pt.add_assoc b, Pt.add_comm b c, Pt.add_assoc c]
theorem Pt.add_nm (p q : Pt) : ∀ n, (p.add q).nm n = (p.nm n).add (q.nm n)
  | 0 => by rw [Pt.nm_zero, Pt.nm_zero, Pt.nm_zero, Pt.add_zero]
  | n + 1 => by rw [Pt.nm_succ, Pt.add_nm p q n, Pt.nm_succ, Pt.nm_succ, Pt.add_add]
theorem Pt.nm_mul (p : Pt) (m : Nat) : ∀ n, p.nm (m * n) = (p.nm m).nm n
  | 0 => rfl
  | n + 1 => by rw [Nat.mul_succ, Pt.nm_add, Pt.nm_mul p m n, Pt.nm_succ]
theorem Pt.neg_add (p : Pt) : p.neg.add p = Pt.zero := by rw [Pt.add_comm, Pt.add_neg]
theorem Pt.cancel {p q r : Pt} (h : p.add r = q.add r) : p = q := by
  have h1 : (p.add r).add r.neg = (q.add r).add r.neg := by rw [h]
  rwa [Pt.add_assoc, Pt.add_assoc, Pt.add_neg, Pt.add_zero, Pt.add_zero] at h1
theorem Pt.neg_eq {p q : Pt} (h : p.add q = Pt.zero) : p = q.neg := Pt.cancel (r := q) (by rw [h, Pt.neg_add])
theorem Pt.neg_sum (p q : Pt) : (p.add q).neg = p.neg.add q.neg := by
  refine (Pt.neg_eq ?_).symm
  rw [Pt.add_add, Pt.neg_add, Pt.neg_add, Pt.add_zero]
theorem Pt.neg_zero : Pt.zero.neg = Pt.zero := (Pt.neg_eq (Pt.add_zero _)).symm
theorem Pt.neg_nm (p : Pt) : ∀ n, p.neg.nm n = (p.nm n).neg
  | 0 => Pt.neg_zero.symm
  | n + 1 => by rw [Pt.nm_succ, Pt.neg_nm p n, Pt.nm_succ, Pt.neg_sum]
theorem Pt.nm_gcd (p : Pt) : ∀ m n, p.nm m = Pt.zero → p.nm n = Pt.zero → p.nm (Nat.gcd m n) = Pt.zero := by
  intro m n
  induction m, n using Nat.gcd.induction with
  | H0 n => intro _ h; simpa using h
  | H1 m n hm ih =>
    intro h1 h2
    rw [Nat.gcd_rec]
    refine ih ?_ h1
    have e : p.nm n = (p.nm (m * (n / m))).add (p.nm (n % m)) := by rw [← Pt.nm_add, Nat.div_add_mod]
    rw [Pt.nm_mul, h1, Pt.zero_nm, Pt.zero_add] at e
    rw [← e, h2]
end Go.Proofs.YtpfcboakafbnlaaDoor
