/-
  The base, and its order: L of it are the neutral one. Plain mathematics: nothing of the program stands here.
-/
import Derived.Test.YtpfcboakafbnlaaDoorCGrp
set_option linter.unusedVariables false
namespace Go.Proofs.YtpfcboakafbnlaaDoor
/-- A point told by four numbers, of which the third is not 0. -/
def Rep (X Y Z T : Fe) (p : Pt) : Prop := Z ≠ 0 ∧ p.x * Z = X ∧ p.y * Z = Y ∧ T * Z = X * Y
theorem Rep.eq {X Y Z T : Fe} {p q : Pt} (h : Rep X Y Z T p) (h' : Rep X Y Z T q) : p = q :=
  Pt.ext (mul_cancel h.1 (h.2.1.trans h'.2.1.symm)) (mul_cancel h.1 (h.2.2.1.trans h'.2.2.1.symm))
/-- What T is. -/
theorem Rep.t {X Y Z T : Fe} {p : Pt} (h : Rep X Y Z T p) : T = p.x * p.y * Z := by
  obtain ⟨h0, h1, h2, h3⟩ := h
  exact mul_cancel h0 (by rw [h3]; grobner)
/-- Two points told by the same parts, up to a number. -/
theorem rep_same {X Y Z T X' Y' Z' T' : Fe} {p q : Pt} (h : Rep X Y Z T p) (h' : Rep X' Y' Z' T' q) : p = q ↔ X * Z' = X' * Z ∧ Y * Z' = Y' * Z := by
  obtain ⟨h0, h1, h2, _⟩ := h
  obtain ⟨g0, g1, g2, _⟩ := h'
  constructor
  · intro e
    subst e
    constructor <;> grobner
  · intro ⟨e1, e2⟩
    exact Pt.ext (mul_cancel (mul_ne h0 g0) (by grobner)) (mul_cancel (mul_ne h0 g0) (by grobner))
theorem rep_add {X1 Y1 Z1 T1 X2 Y2 Z2 T2 : Fe} {p q : Pt} (h1 : Rep X1 Y1 Z1 T1 p) (h2 : Rep X2 Y2 Z2 T2 q) {A B C D E F G H : Fe} (hA : A = (Y1 - X1) * (Y2 - X2)) (hB : B = (Y1 + X1) * (Y2 + X2)) (hC : C = 2 * dd * T1 * T2) (hD : D = 2 * Z1 * Z2) (hE : E = B - A) (hF : F = D - C) (hG : G = D + C) (hH : H = B + A) :
    Rep (E * F) (G * H) (F * G) (E * H) (p.add q) := by
  have t1 := h1.t
  have t2 := h2.t
  obtain ⟨z1, a1, b1, c1⟩ := h1
  obtain ⟨z2, a2, b2, c2⟩ := h2
  have n1 := den1 p.on q.on
  have n2 := den2 p.on q.on
  have sx := p.addX q
  have sy := p.addY q
  have fG : G = 2 * (Z1 * Z2) * (1 + dd * (p.x * q.x) * (p.y * q.y)) := by rw [hG, hD, hC, t1, t2]; grobner
  have fF : F = 2 * (Z1 * Z2) * (1 - dd * (p.x * q.x) * (p.y * q.y)) := by rw [hF, hD, hC, t1, t2]; grobner
  have fE : E = 2 * (Z1 * Z2) * (p.x * q.y + p.y * q.x) := by rw [hE, hB, hA, ← a1, ← b1, ← a2, ← b2]; grobner
  have fH : H = 2 * (Z1 * Z2) * (p.y * q.y + p.x * q.x) := by rw [hH, hB, hA, ← a1, ← b1, ← a2, ← b2]; grobner
  have zz : 2 * (Z1 * Z2) ≠ 0 := mul_ne two_ne (mul_ne z1 z2)
  refine ⟨?_, ?_, ?_, by grobner⟩
  · rw [fG, fF]; exact mul_ne (mul_ne zz n2) (mul_ne zz n1)
  · rw [fE, ← sx, fG]; grobner
  · rw [fH, ← sy, fF]; grobner
theorem rep_neg {X Y Z T : Fe} {p : Pt} (h : Rep X Y Z T p) : Rep (-X) Y Z (-T) p.neg := by
  obtain ⟨h0, h1, h2, h3⟩ := h
  refine ⟨h0, ?_, h2, by grobner⟩
  show -p.x * Z = -X
  grobner
theorem rep_zero : Rep 0 1 1 0 Pt.zero := ⟨one_ne, by show (0 : Fe) * 1 = 0; grobner, by show (1 : Fe) * 1 = 1; grobner, by grobner⟩
theorem rep_aff (p : Pt) : Rep p.x p.y 1 (p.x * p.y) p := ⟨one_ne, by grobner, by grobner, by grobner⟩
theorem dbl_id {x y Z d : Fe} (on : y * y - x * x = 1 + d * (x * x) * (y * y)) : x * Z * (x * Z) - y * Z * (y * Z) = -(Z * Z) * (1 + d * (x * x) * (y * y)) := by grobner
theorem dbl_id2 (x Z k : Fe) : 2 * (Z * Z) + -(Z * Z) * (1 + k) = (Z * Z) * (1 - k) := by grobner
theorem dbl_id3 (x y Z : Fe) : x * Z * (x * Z) + y * Z * (y * Z) - (x * Z + y * Z) * (x * Z + y * Z) = -(Z * Z) * (x * y + y * x) := by grobner
theorem dbl_id4 (x y Z : Fe) : x * Z * (x * Z) + y * Z * (y * Z) = (Z * Z) * (y * y + x * x) := by grobner
theorem dbl_id5 (s u v W : Fe) : s * (W * v * (-W * u)) = -W * (s * u) * (W * v) := by grobner
theorem dbl_id6 (s u v W : Fe) : s * (W * v * (-W * u)) = -W * u * (W * (s * v)) := by grobner
theorem rep_last (E F G H : Fe) : E * H * (F * G) = E * F * (G * H) := by grobner
/-- Doubling by the other formulas. -/
theorem rep_dbl {X Y Z T : Fe} {p : Pt} (h : Rep X Y Z T p) {A B C H E G F : Fe} (hA : A = X * X) (hB : B = Y * Y) (hC : C = 2 * (Z * Z)) (hH : H = A + B) (hE : E = H - (X + Y) * (X + Y)) (hG : G = A - B) (hF : F = C + G) :
    Rep (E * F) (G * H) (F * G) (E * H) (p.add p) := by
  have t := h.t
  obtain ⟨z, a, b, c⟩ := h
  have on := p.on
  unfold On at on
  have n1 := den1 p.on p.on
  have n2 := den2 p.on p.on
  have sx := p.addX p
  have sy := p.addY p
  have fG : G = -(Z * Z) * (1 + dd * (p.x * p.x) * (p.y * p.y)) := by rw [hG, hA, hB, ← a, ← b]; exact dbl_id on
  have fF : F = (Z * Z) * (1 - dd * (p.x * p.x) * (p.y * p.y)) := by rw [hF, hC, fG]; exact dbl_id2 p.x Z _
  have fE : E = -(Z * Z) * (p.x * p.y + p.y * p.x) := by rw [hE, hH, hA, hB, ← a, ← b]; exact dbl_id3 _ _ _
  have fH : H = (Z * Z) * (p.y * p.y + p.x * p.x) := by rw [hH, hB, hA, ← a, ← b]; exact dbl_id4 _ _ _
  have zz : Z * Z ≠ 0 := mul_ne z z
  have zn : -(Z * Z) ≠ 0 := fun h => zz (by grobner)
  refine ⟨?_, ?_, ?_, rep_last _ _ _ _⟩
  · rw [fG, fF]; exact mul_ne (mul_ne zz n2) (mul_ne zn n1)
  · rw [fE, ← sx, fG, fF]; exact dbl_id5 _ _ _ _
  · rw [fH, ← sy, fF, fG]; exact dbl_id6 _ _ _ _
end Go.Proofs.YtpfcboakafbnlaaDoor
