/-
  Roots modulo p; which numbers are those of points. Plain mathematics: nothing of the program stands here.
-/
import Derived.Test.YtpfcboakafbnlaaDoorCOrd
set_option linter.unusedVariables false
namespace Go.Proofs.YtpfcboakafbnlaaDoor
def IsSq (a : Fe) : Prop := ∃ s, a = s * s
theorem zero_pw (n : Nat) : pw 0 (n + 1) = 0 := by rw [pw_succ]; grobner
theorem pw_sq {a : Fe} (ha : IsSq a) {n : Nat} (hn : 2 * n = pp - 1) : a ≠ 0 → pw a n = 1 := fun h => by
  obtain ⟨s, hs⟩ := ha
  exact euler h hs hn
/-- The power of (p + 3) / 8 is a root, up to a root of -1. -/
theorem root_or {a : Fe} (ha : IsSq a) {e : Nat} (he : 8 * e = pp + 3) : pw a e * pw a e = a ∨ (pw a e * ii) * (pw a e * ii) = a := by
  by_cases h0 : a = 0
  · left
    obtain ⟨n, rfl⟩ : ∃ n, e = n + 1 := ⟨e - 1, by have : 0 < pp := by decide
                                                   omega⟩
    rw [h0, zero_pw]; grobner
  · obtain ⟨n, hn⟩ : ∃ n, 4 * e = n + 2 := ⟨4 * e - 2, by have : 0 < pp := by decide
                                                          omega⟩
    have h2 : 2 * n = pp - 1 := by have : 0 < pp := by decide
                                   omega
    have h4 : (pw a e * pw a e) * (pw a e * pw a e) = a * a := by
      rw [← pw_add, ← pw_add, show e + e + (e + e) = 4 * e by omega, hn, pw_add, pw_sq ha h2 h0, pw_two]; grobner
    have hi := ii_sq
    rcases sq_eq h4 with h | h
    · exact .inl h
    · right; grobner
/-- 2 to the power of (p - 1) / 4 is the root of -1. -/
theorem pw2_quarter {n : Nat} (hn : n = 14474011154664524427946373126085988481658748083205070504932198000989141204987) : pw (fe 2) n = ii :=
  pw_of 2 n 255 19681161376707505956807079304988542015446066515923890162744021073123829784752 (by rw [hn]; decide) (by rw [hn]; kernel_rfl)
/-- The square of x that goes with y. -/
def av (y : Fe) : Fe := (y * y - 1) * fin (dd * (y * y) + 1)
theorem v_ne (y : Fe) : dd * (y * y) + 1 ≠ 0 := fun h => by
  by_cases hy : y = 0
  · have h1 : dd * (y * y) + 1 = 1 := by clear h; grobner
    exact one_ne (h1.symm.trans h)
  · have hi := ii_sq
    exact dd_nsq2 (a := ii) hy (by grobner)
theorem on_iff (x y : Fe) : On x y ↔ x * x = av y := by
  have hv := mul_fin (v_ne y)
  unfold On av
  constructor
  · intro h; exact mul_cancel (v_ne y) (by grobner)
  · intro h; grobner
theorem Pt.sq (p : Pt) : p.x * p.x = av p.y := (on_iff _ _).1 p.on
/- Odd and even. -/
theorem neg_val {x : Fe} (h : x ≠ 0) : (-x).val = pp - x.val := by
  have h1 : x.val ≠ 0 := fun h0 => h (Fin.ext h0)
  have h2 := x.isLt
  rw [Fin.neg_def]
  show (pp - x.val) % pp = pp - x.val
  exact Nat.mod_eq_of_lt (by omega)
theorem neg_par {x : Fe} (h : x ≠ 0) : (-x).val % 2 = 1 - x.val % 2 := by
  have h2 := x.isLt
  have h3 : pp % 2 = 1 := by decide
  rw [neg_val h]
  omega
theorem neg_ne {x : Fe} (h : x ≠ 0) : x ≠ -x := fun h0 => by
  have := neg_par h
  rw [← h0] at this
  omega
/-- A point's number. -/
def t255 : Nat := 57896044618658097711785492504343953926634992332820282019728792003956564819968
def Pt.enc (p : Pt) : Nat := p.y.val + t255 * (p.x.val % 2)
theorem pp_t : pp + 19 = t255 := by decide
theorem Pt.enc_lt (p : Pt) : p.enc < 2 * t255 := by
  have h1 := p.y.isLt
  have h2 := pp_t
  unfold Pt.enc
  rcases (by omega : p.x.val % 2 = 0 ∨ p.x.val % 2 = 1) with h | h <;> rw [h] <;> omega
theorem Pt.enc_y (p : Pt) : p.enc % t255 = p.y.val := by
  have h1 := p.y.isLt
  have h2 := pp_t
  unfold Pt.enc
  rw [Nat.add_mul_mod_self_left, Nat.mod_eq_of_lt (by omega)]
theorem Pt.enc_odd (p : Pt) : p.enc / t255 = p.x.val % 2 := by
  have h1 := p.y.isLt
  have h2 := pp_t
  unfold Pt.enc
  rw [Nat.add_mul_div_left _ _ (by omega), Nat.div_eq_of_lt (by omega), Nat.zero_add]
theorem Pt.eq_of_y {p q : Pt} (hy : p.y = q.y) (hx : p.x.val % 2 = q.x.val % 2) : p = q := by
  have h1 := p.sq
  have h2 := q.sq
  rw [hy, ← h2] at h1
  refine Pt.ext ?_ hy
  rcases sq_eq h1 with h | h
  · exact h
  · by_cases h0 : q.x = 0
    · rw [h, h0]; grobner
    · have := neg_par h0
      rw [← h, hx] at this
      omega
theorem Pt.enc_inj {p q : Pt} (h : p.enc = q.enc) : p = q :=
  Pt.eq_of_y (Fin.ext (by rw [← p.enc_y, ← q.enc_y, h])) (by rw [← p.enc_odd, ← q.enc_odd, h])
/-- The other point of the same y. -/
theorem Pt.neg_enc (p : Pt) (h : p ≠ p.neg) : p.neg.enc = (if p.x.val % 2 = 1 then p.enc - t255 else p.enc + t255) := by
  have h0 : p.x ≠ 0 := fun h0 => h (Pt.ext (by show p.x = -p.x; rw [h0]; grobner) rfl)
  have h1 := neg_par h0
  unfold Pt.enc
  show p.y.val + t255 * ((-p.x).val % 2) = _
  rw [h1]
  split
  · rename_i hh; rw [hh]; omega
  · rename_i hh; rw [show p.x.val % 2 = 0 by omega]; omega
/-- The point of a root and an oddness. -/
theorem of_root {y r : Fe} (hr : r * r = av y) (b : Nat) (hb : b < 2) (h : r ≠ 0 ∨ b = 0) :
    ∃ p : Pt, p.y = y ∧ p.x = (if r.val % 2 = b then r else -r) ∧ p.x.val % 2 = b := by
  by_cases hp : r.val % 2 = b
  · exact ⟨⟨r, y, (on_iff _ _).2 hr⟩, rfl, by rw [if_pos hp], hp⟩
  · have h0 : r ≠ 0 := by
      rcases h with h | h
      · exact h
      · intro h0; rw [h0, h] at hp; exact hp rfl
    refine ⟨⟨-r, y, (on_iff _ _).2 (by rw [← hr]; grobner)⟩, rfl, by rw [if_neg hp], ?_⟩
    show (-r).val % 2 = b
    rw [neg_par h0]; omega
/-- Which numbers are those of points. -/
theorem enc_iff (n : Nat) (hn : n < 2 * t255) : (∃ p : Pt, p.enc = n) ↔ n % t255 < pp ∧ IsSq (av (fe (n % t255))) ∧ (av (fe (n % t255)) = 0 → n / t255 = 0) := by
  have ht : 0 < t255 := by decide
  constructor
  · rintro ⟨p, rfl⟩
    rw [p.enc_y, p.enc_odd, fe_of]
    refine ⟨p.y.isLt, ⟨p.x, p.sq.symm⟩, fun h => ?_⟩
    rw [← p.sq] at h
    rcases mul_zero_or h with h | h <;> rw [h] <;> rfl
  · rintro ⟨h1, ⟨s, hs⟩, h3⟩
    have hb : n / t255 < 2 := by rw [Nat.div_lt_iff_lt_mul ht]; omega
    obtain ⟨p, e1, e2, e3⟩ := of_root hs.symm (n / t255) hb (by
      by_cases h0 : s = 0
      · right; exact h3 (by rw [hs, h0]; grobner)
      · left; exact h0)
    refine ⟨p, ?_⟩
    unfold Pt.enc
    rw [e1, e3, fe_val, Nat.mod_eq_of_lt h1, Nat.mod_add_div]
end Go.Proofs.YtpfcboakafbnlaaDoor
