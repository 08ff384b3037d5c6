/-
  The walk of Mul.
-/
import Derived.Test.YtpfcboakafbnlaaDoorB
set_option linter.unusedVariables false
namespace Go.Proofs.YtpfcboakafbnlaaDoor
open Go.RowKit Go.Sort Go.BigFrame
set_option maxRecDepth 100000
set_option maxHeartbeats 4000000
def sm0 (a b : E5) : Nat := a.a0 * b.a0 + a.a1 * (19 * b.a4) + a.a2 * (19 * b.a3) + a.a3 * (19 * b.a2) + a.a4 * (19 * b.a1)
def sm1 (a b : E5) : Nat := a.a0 * b.a1 + a.a1 * b.a0 + a.a2 * (19 * b.a4) + a.a3 * (19 * b.a3) + a.a4 * (19 * b.a2)
def sm2 (a b : E5) : Nat := a.a0 * b.a2 + a.a1 * b.a1 + a.a2 * b.a0 + a.a3 * (19 * b.a4) + a.a4 * (19 * b.a3)
def sm3 (a b : E5) : Nat := a.a0 * b.a3 + a.a1 * b.a2 + a.a2 * b.a1 + a.a3 * b.a0 + a.a4 * (19 * b.a4)
def sm4 (a b : E5) : Nat := a.a0 * b.a4 + a.a1 * b.a3 + a.a2 * b.a2 + a.a3 * b.a1 + a.a4 * b.a0
def folded (s0 s1 s2 s3 s4 : Nat) : E5 := carE (s0 % 2251799813685248 + 19 * (s4 / 2251799813685248)) (s1 % 2251799813685248 + s0 / 2251799813685248) (s2 % 2251799813685248 + s1 / 2251799813685248) (s3 % 2251799813685248 + s2 / 2251799813685248) (s4 % 2251799813685248 + s3 / 2251799813685248)
def mulE (a b : E5) : E5 := folded (sm0 a b) (sm1 a b) (sm2 a b) (sm3 a b) (sm4 a b)
theorem mul_le_b {a b : Nat} (A B : Nat) (ha : a ≤ A) (hb : b ≤ B) : a * b ≤ A * B := Nat.mul_le_mul ha hb
theorem sm_ident (a b : E5) : sm0 a b + 2251799813685248 * sm1 a b + 5070602400912917605986812821504 * sm2 a b + 11417981541647679048466287755595961091061972992 * sm3 a b + 25711008708143844408671393477458601640355247900524685364822016 * sm4 a b
    + pp * (a.a1 * b.a4 + a.a2 * b.a3 + a.a3 * b.a2 + a.a4 * b.a1 + 2251799813685248 * (a.a2 * b.a4 + a.a3 * b.a3 + a.a4 * b.a2) + 5070602400912917605986812821504 * (a.a3 * b.a4 + a.a4 * b.a3) + 11417981541647679048466287755595961091061972992 * (a.a4 * b.a4)) = a.val * b.val := by
  unfold sm0 sm1 sm2 sm3 sm4 E5.val pp
  grind
theorem folded_mod (s0 s1 s2 s3 s4 : Nat) : (folded s0 s1 s2 s3 s4).val % pp = (s0 + 2251799813685248 * s1 + 5070602400912917605986812821504 * s2 + 11417981541647679048466287755595961091061972992 * s3 + 25711008708143844408671393477458601640355247900524685364822016 * s4) % pp := by
  unfold folded
  rw [carE_mod]
  have h : (E5.mk (s0 % 2251799813685248 + 19 * (s4 / 2251799813685248)) (s1 % 2251799813685248 + s0 / 2251799813685248) (s2 % 2251799813685248 + s1 / 2251799813685248) (s3 % 2251799813685248 + s2 / 2251799813685248) (s4 % 2251799813685248 + s3 / 2251799813685248)).val + pp * (s4 / 2251799813685248) = s0 + 2251799813685248 * s1 + 5070602400912917605986812821504 * s2 + 11417981541647679048466287755595961091061972992 * s3 + 25711008708143844408671393477458601640355247900524685364822016 * s4 := by
    unfold E5.val pp
    simp only
    omega
  rw [← h, Nat.add_mul_mod_self_left]
theorem mulE_mod (a b : E5) : (mulE a b).val % pp = (a.val * b.val) % pp := by
  unfold mulE
  rw [folded_mod, ← sm_ident a b, Nat.add_mul_mod_self_left]
theorem sm_lt {a b : E5} (ha : a.wf) (hb : b.wf) : sm0 a b < 2596148429267413814265248164610048 ∧ sm1 a b < 2596148429267413814265248164610048 ∧ sm2 a b < 2596148429267413814265248164610048 ∧ sm3 a b < 2596148429267413814265248164610048 ∧ sm4 a b < 101412048018258352119736256430080 := by
  unfold E5.wf at ha hb
  have hp00 := mul_le_b 4503599627370495 4503599627370495 (show a.a0 ≤ 4503599627370495 by omega) (show b.a0 ≤ 4503599627370495 by omega)
  have hp01 := mul_le_b 4503599627370495 4503599627370495 (show a.a0 ≤ 4503599627370495 by omega) (show b.a1 ≤ 4503599627370495 by omega)
  have hp02 := mul_le_b 4503599627370495 4503599627370495 (show a.a0 ≤ 4503599627370495 by omega) (show b.a2 ≤ 4503599627370495 by omega)
  have hp03 := mul_le_b 4503599627370495 4503599627370495 (show a.a0 ≤ 4503599627370495 by omega) (show b.a3 ≤ 4503599627370495 by omega)
  have hp04 := mul_le_b 4503599627370495 4503599627370495 (show a.a0 ≤ 4503599627370495 by omega) (show b.a4 ≤ 4503599627370495 by omega)
  have hq01 : a.a0 * (19 * b.a1) = 19 * (a.a0 * b.a1) := by grind
  have hq02 : a.a0 * (19 * b.a2) = 19 * (a.a0 * b.a2) := by grind
  have hq03 : a.a0 * (19 * b.a3) = 19 * (a.a0 * b.a3) := by grind
  have hq04 : a.a0 * (19 * b.a4) = 19 * (a.a0 * b.a4) := by grind
  have hp10 := mul_le_b 4503599627370495 4503599627370495 (show a.a1 ≤ 4503599627370495 by omega) (show b.a0 ≤ 4503599627370495 by omega)
  have hp11 := mul_le_b 4503599627370495 4503599627370495 (show a.a1 ≤ 4503599627370495 by omega) (show b.a1 ≤ 4503599627370495 by omega)
  have hp12 := mul_le_b 4503599627370495 4503599627370495 (show a.a1 ≤ 4503599627370495 by omega) (show b.a2 ≤ 4503599627370495 by omega)
  have hp13 := mul_le_b 4503599627370495 4503599627370495 (show a.a1 ≤ 4503599627370495 by omega) (show b.a3 ≤ 4503599627370495 by omega)
  have hp14 := mul_le_b 4503599627370495 4503599627370495 (show a.a1 ≤ 4503599627370495 by omega) (show b.a4 ≤ 4503599627370495 by omega)
  have hq11 : a.a1 * (19 * b.a1) = 19 * (a.a1 * b.a1) := by grind
  have hq12 : a.a1 * (19 * b.a2) = 19 * (a.a1 * b.a2) := by grind
  have hq13 : a.a1 * (19 * b.a3) = 19 * (a.a1 * b.a3) := by grind
  have hq14 : a.a1 * (19 * b.a4) = 19 * (a.a1 * b.a4) := by grind
  have hp20 := mul_le_b 4503599627370495 4503599627370495 (show a.a2 ≤ 4503599627370495 by omega) (show b.a0 ≤ 4503599627370495 by omega)
  have hp21 := mul_le_b 4503599627370495 4503599627370495 (show a.a2 ≤ 4503599627370495 by omega) (show b.a1 ≤ 4503599627370495 by omega)
  have hp22 := mul_le_b 4503599627370495 4503599627370495 (show a.a2 ≤ 4503599627370495 by omega) (show b.a2 ≤ 4503599627370495 by omega)
  have hp23 := mul_le_b 4503599627370495 4503599627370495 (show a.a2 ≤ 4503599627370495 by omega) (show b.a3 ≤ 4503599627370495 by omega)
  have hp24 := mul_le_b 4503599627370495 4503599627370495 (show a.a2 ≤ 4503599627370495 by omega) (show b.a4 ≤ 4503599627370495 by omega)
  have hq21 : a.a2 * (19 * b.a1) = 19 * (a.a2 * b.a1) := by grind
  have hq22 : a.a2 * (19 * b.a2) = 19 * (a.a2 * b.a2) := by grind
  have hq23 : a.a2 * (19 * b.a3) = 19 * (a.a2 * b.a3) := by grind
  have hq24 : a.a2 * (19 * b.a4) = 19 * (a.a2 * b.a4) := by grind
  have hp30 := mul_le_b 4503599627370495 4503599627370495 (show a.a3 ≤ 4503599627370495 by omega) (show b.a0 ≤ 4503599627370495 by omega)
  have hp31 := mul_le_b 4503599627370495 4503599627370495 (show a.a3 ≤ 4503599627370495 by omega) (show b.a1 ≤ 4503599627370495 by omega)
  have hp32 := mul_le_b 4503599627370495 4503599627370495 (show a.a3 ≤ 4503599627370495 by omega) (show b.a2 ≤ 4503599627370495 by omega)
  have hp33 := mul_le_b 4503599627370495 4503599627370495 (show a.a3 ≤ 4503599627370495 by omega) (show b.a3 ≤ 4503599627370495 by omega)
  have hp34 := mul_le_b 4503599627370495 4503599627370495 (show a.a3 ≤ 4503599627370495 by omega) (show b.a4 ≤ 4503599627370495 by omega)
  have hq31 : a.a3 * (19 * b.a1) = 19 * (a.a3 * b.a1) := by grind
  have hq32 : a.a3 * (19 * b.a2) = 19 * (a.a3 * b.a2) := by grind
  have hq33 : a.a3 * (19 * b.a3) = 19 * (a.a3 * b.a3) := by grind
  have hq34 : a.a3 * (19 * b.a4) = 19 * (a.a3 * b.a4) := by grind
  have hp40 := mul_le_b 4503599627370495 4503599627370495 (show a.a4 ≤ 4503599627370495 by omega) (show b.a0 ≤ 4503599627370495 by omega)
  have hp41 := mul_le_b 4503599627370495 4503599627370495 (show a.a4 ≤ 4503599627370495 by omega) (show b.a1 ≤ 4503599627370495 by omega)
  have hp42 := mul_le_b 4503599627370495 4503599627370495 (show a.a4 ≤ 4503599627370495 by omega) (show b.a2 ≤ 4503599627370495 by omega)
  have hp43 := mul_le_b 4503599627370495 4503599627370495 (show a.a4 ≤ 4503599627370495 by omega) (show b.a3 ≤ 4503599627370495 by omega)
  have hp44 := mul_le_b 4503599627370495 4503599627370495 (show a.a4 ≤ 4503599627370495 by omega) (show b.a4 ≤ 4503599627370495 by omega)
  have hq41 : a.a4 * (19 * b.a1) = 19 * (a.a4 * b.a1) := by grind
  have hq42 : a.a4 * (19 * b.a2) = 19 * (a.a4 * b.a2) := by grind
  have hq43 : a.a4 * (19 * b.a3) = 19 * (a.a4 * b.a3) := by grind
  have hq44 : a.a4 * (19 * b.a4) = 19 * (a.a4 * b.a4) := by grind
  unfold sm0 sm1 sm2 sm3 sm4
  omega
theorem folded_wf {s0 s1 s2 s3 s4 : Nat} (h0 : s0 < 2596148429267413814265248164610048) (h1 : s1 < 2596148429267413814265248164610048) (h2 : s2 < 2596148429267413814265248164610048) (h3 : s3 < 2596148429267413814265248164610048) (h4 : s4 < 101412048018258352119736256430080) : (folded s0 s1 s2 s3 s4).wf := by
  unfold folded
  exact carE_wf (by omega) (by omega) (by omega) (by omega) (by omega)
theorem mulE_wf {a b : E5} (ha : a.wf) (hb : b.wf) : (mulE a b).wf := by
  obtain ⟨h0, h1, h2, h3, h4⟩ := sm_lt ha hb
  exact folded_wf h0 h1 h2 h3 h4
theorem wdc_one (W : Nat) : (wdc W).all (·.oneCell') = true := by simp [wdc, Value.oneCell']
theorem plus41_0 (x y : Nat) (w : World) (hx : x < 18446744073709551616) (hy : y < 18446744073709551616) :
    Calls Tryd.prog 62 #[.agg #[.int .u64 0, .int .u64 0], .int .u64 x, .int .u64 y] w fun e w' => e = .returned (.agg (wdc (x * y))) ∧ Below w.heap.size w w' := by
  have h := plus41 0 x y w hx hy (by
    have := mul_le_b 18446744073709551615 18446744073709551615 (show x ≤ 18446744073709551615 by omega) (show y ≤ 18446744073709551615 by omega)
    omega)
  rw [Nat.zero_add] at h
  exact h
theorem run_add23 {ρ : Operand → Value} {o : Oper} {x y : Operand} {w : World} (a b : Int) (ho : o.op = .binOp .add 24 x y 24) (hx : ρ x = .int .u64 a) (hy : ρ y = .int .u64 b) (h0 : 0 ≤ a + b) (h1 : a + b < 18446744073709551616) :
    (execOp ρ o).run Tryd.prog w = .ok (.value (.int .u64 (a + b))) w := by
  have hw := wrapu (a + b) h0 h1
  simp [execOp, ho, hx, hy, go_sem, hw]
theorem run_mul23 {ρ : Operand → Value} {o : Oper} {x y : Operand} {w : World} (a b : Int) (ho : o.op = .binOp .mul 24 x y 24) (hx : ρ x = .int .u64 a) (hy : ρ y = .int .u64 b) (h0 : 0 ≤ a * b) (h1 : a * b < 18446744073709551616) :
    (execOp ρ o).run Tryd.prog w = .ok (.value (.int .u64 (a * b))) w := by
  have hw := wrapu (a * b) h0 h1
  simp [execOp, ho, hx, hy, go_sem, hw]
theorem mul24' (x0 x1 x2 x3 x4 y0 y1 y2 y3 y4 : Nat) (w : World) (hx0 : x0 < 4503599627370496) (hx1 : x1 < 4503599627370496) (hx2 : x2 < 4503599627370496) (hx3 : x3 < 4503599627370496) (hx4 : x4 < 4503599627370496) (hy0 : y0 < 4503599627370496) (hy1 : y1 < 4503599627370496) (hy2 : y2 < 4503599627370496) (hy3 : y3 < 4503599627370496) (hy4 : y4 < 4503599627370496) (s0 s1 s2 s3 s4 : Nat)
    (hs0 : Hid (s0 = x0 * y0 + x1 * (19 * y4) + x2 * (19 * y3) + x3 * (19 * y2) + x4 * (19 * y1)))
    (hs1 : Hid (s1 = x0 * y1 + x1 * y0 + x2 * (19 * y4) + x3 * (19 * y3) + x4 * (19 * y2)))
    (hs2 : Hid (s2 = x0 * y2 + x1 * y1 + x2 * y0 + x3 * (19 * y4) + x4 * (19 * y3)))
    (hs3 : Hid (s3 = x0 * y3 + x1 * y2 + x2 * y1 + x3 * y0 + x4 * (19 * y4)))
    (hs4 : Hid (s4 = x0 * y4 + x1 * y3 + x2 * y2 + x3 * y1 + x4 * y0))
    (hl0 : s0 < 2596148429267413814265248164610048) (hl1 : s1 < 2596148429267413814265248164610048) (hl2 : s2 < 2596148429267413814265248164610048) (hl3 : s3 < 2596148429267413814265248164610048) (hl4 : s4 < 101412048018258352119736256430080) :
    Calls Tryd.prog 39 #[.agg #[.int .u64 (x0 : Int), .int .u64 (x1 : Int), .int .u64 (x2 : Int), .int .u64 (x3 : Int), .int .u64 (x4 : Int)], .agg #[.int .u64 (y0 : Int), .int .u64 (y1 : Int), .int .u64 (y2 : Int), .int .u64 (y3 : Int), .int .u64 (y4 : Int)]] w fun e w' => e = .returned (.agg (elc (folded s0 s1 s2 s3 s4))) ∧ Below w.heap.size w w' := by
  obtain ⟨r0, hr0⟩ : ∃ z, z = s0 % 2251799813685248 := ⟨_, rfl⟩
  obtain ⟨c0, hc0⟩ : ∃ z, z = s0 / 2251799813685248 := ⟨_, rfl⟩
  obtain ⟨r1, hr1⟩ : ∃ z, z = s1 % 2251799813685248 := ⟨_, rfl⟩
  obtain ⟨c1, hc1⟩ : ∃ z, z = s1 / 2251799813685248 := ⟨_, rfl⟩
  obtain ⟨r2, hr2⟩ : ∃ z, z = s2 % 2251799813685248 := ⟨_, rfl⟩
  obtain ⟨c2, hc2⟩ : ∃ z, z = s2 / 2251799813685248 := ⟨_, rfl⟩
  obtain ⟨r3, hr3⟩ : ∃ z, z = s3 % 2251799813685248 := ⟨_, rfl⟩
  obtain ⟨c3, hc3⟩ : ∃ z, z = s3 / 2251799813685248 := ⟨_, rfl⟩
  obtain ⟨r4, hr4⟩ : ∃ z, z = s4 % 2251799813685248 := ⟨_, rfl⟩
  obtain ⟨c4, hc4⟩ : ∃ z, z = s4 / 2251799813685248 := ⟨_, rfl⟩
  have hc := fun w1 => carried39 (r0 + 19 * c4) (r1 + c0) (r2 + c1) (r3 + c2) (r4 + c3) w1 (by omega) (by omega) (by omega) (by omega) (by omega)
  simp only [Int.natCast_add, Int.natCast_mul, Int.cast_ofNat_Int] at hc
  rw [show folded s0 s1 s2 s3 s4 = carE (r0 + 19 * c4) (r1 + c0) (r2 + c1) (r3 + c2) (r4 + c3) by rw [hr0, hr1, hr2, hr3, hr4, hc0, hc1, hc2, hc3, hc4]; rfl]
  obtain ⟨rv, hrv⟩ : ∃ r, r = elc (carE (r0 + 19 * c4) (r1 + c0) (r2 + c1) (r3 + c2) (r4 + c3)) := ⟨_, rfl⟩
  have hrl : rv.size = 5 := by rw [hrv]; rfl
  have hrw : rv.all (·.oneCell') = true := by rw [hrv]; exact elc_one _
  rw [← hrv] at hc ⊢
  have RE0 := fun w1 => rest42 s0 w1
  have CA0 := fun w1 => carry43 s0 w1 (by omega)
  rw [← hr0] at RE0
  rw [← hc0] at CA0
  have B0 : c0 < 1152921504606846976 ∧ r0 < 2251799813685248 := by omega
  have RE1 := fun w1 => rest42 s1 w1
  have CA1 := fun w1 => carry43 s1 w1 (by omega)
  rw [← hr1] at RE1
  rw [← hc1] at CA1
  have B1 : c1 < 1152921504606846976 ∧ r1 < 2251799813685248 := by omega
  have RE2 := fun w1 => rest42 s2 w1
  have CA2 := fun w1 => carry43 s2 w1 (by omega)
  rw [← hr2] at RE2
  rw [← hc2] at CA2
  have B2 : c2 < 1152921504606846976 ∧ r2 < 2251799813685248 := by omega
  have RE3 := fun w1 => rest42 s3 w1
  have CA3 := fun w1 => carry43 s3 w1 (by omega)
  rw [← hr3] at RE3
  rw [← hc3] at CA3
  have B3 : c3 < 1152921504606846976 ∧ r3 < 2251799813685248 := by omega
  have RE4 := fun w1 => rest42 s4 w1
  have CA4 := fun w1 => carry43 s4 w1 (by omega)
  rw [← hr4] at RE4
  rw [← hc4] at CA4
  have B4 : c4 < 45035996273704960 ∧ r4 < 2251799813685248 := by omega
  clear hrv hr0 hc0 hr1 hc1 hr2 hc2 hr3 hc3 hr4 hc4
  obtain ⟨z1, hz1⟩ : ∃ z, z = 19 * y1 := ⟨_, rfl⟩
  have hzl1 : z1 < 85568392920039424 := by omega
  have hzi1 : 19 * (y1 : Int) = (z1 : Int) := by omega
  obtain ⟨z2, hz2⟩ : ∃ z, z = 19 * y2 := ⟨_, rfl⟩
  have hzl2 : z2 < 85568392920039424 := by omega
  have hzi2 : 19 * (y2 : Int) = (z2 : Int) := by omega
  obtain ⟨z3, hz3⟩ : ∃ z, z = 19 * y3 := ⟨_, rfl⟩
  have hzl3 : z3 < 85568392920039424 := by omega
  have hzi3 : 19 * (y3 : Int) = (z3 : Int) := by omega
  obtain ⟨z4, hz4⟩ : ∃ z, z = 19 * y4 := ⟨_, rfl⟩
  have hzl4 : z4 < 85568392920039424 := by omega
  have hzi4 : 19 * (y4 : Int) = (z4 : Int) := by omega
  simp only [← hz1, ← hz2, ← hz3, ← hz4] at hs0 hs1 hs2 hs3
  clear hz1 hz2 hz3 hz4
  have hp00 : Hid (x0 * y0 ≤ 20282409603651661416747996545025) := mul_le_b 4503599627370495 4503599627370495 (by omega) (by omega)
  have hp01 : Hid (x0 * y1 ≤ 20282409603651661416747996545025) := mul_le_b 4503599627370495 4503599627370495 (by omega) (by omega)
  have hp02 : Hid (x0 * y2 ≤ 20282409603651661416747996545025) := mul_le_b 4503599627370495 4503599627370495 (by omega) (by omega)
  have hp03 : Hid (x0 * y3 ≤ 20282409603651661416747996545025) := mul_le_b 4503599627370495 4503599627370495 (by omega) (by omega)
  have hp04 : Hid (x0 * y4 ≤ 20282409603651661416747996545025) := mul_le_b 4503599627370495 4503599627370495 (by omega) (by omega)
  have hq01 : Hid (x0 * z1 ≤ 385365782469381647983005227024385) := mul_le_b 4503599627370495 85568392920039423 (by omega) (by omega)
  have hq02 : Hid (x0 * z2 ≤ 385365782469381647983005227024385) := mul_le_b 4503599627370495 85568392920039423 (by omega) (by omega)
  have hq03 : Hid (x0 * z3 ≤ 385365782469381647983005227024385) := mul_le_b 4503599627370495 85568392920039423 (by omega) (by omega)
  have hq04 : Hid (x0 * z4 ≤ 385365782469381647983005227024385) := mul_le_b 4503599627370495 85568392920039423 (by omega) (by omega)
  have hp10 : Hid (x1 * y0 ≤ 20282409603651661416747996545025) := mul_le_b 4503599627370495 4503599627370495 (by omega) (by omega)
  have hp11 : Hid (x1 * y1 ≤ 20282409603651661416747996545025) := mul_le_b 4503599627370495 4503599627370495 (by omega) (by omega)
  have hp12 : Hid (x1 * y2 ≤ 20282409603651661416747996545025) := mul_le_b 4503599627370495 4503599627370495 (by omega) (by omega)
  have hp13 : Hid (x1 * y3 ≤ 20282409603651661416747996545025) := mul_le_b 4503599627370495 4503599627370495 (by omega) (by omega)
  have hp14 : Hid (x1 * y4 ≤ 20282409603651661416747996545025) := mul_le_b 4503599627370495 4503599627370495 (by omega) (by omega)
  have hq11 : Hid (x1 * z1 ≤ 385365782469381647983005227024385) := mul_le_b 4503599627370495 85568392920039423 (by omega) (by omega)
  have hq12 : Hid (x1 * z2 ≤ 385365782469381647983005227024385) := mul_le_b 4503599627370495 85568392920039423 (by omega) (by omega)
  have hq13 : Hid (x1 * z3 ≤ 385365782469381647983005227024385) := mul_le_b 4503599627370495 85568392920039423 (by omega) (by omega)
  have hq14 : Hid (x1 * z4 ≤ 385365782469381647983005227024385) := mul_le_b 4503599627370495 85568392920039423 (by omega) (by omega)
  have hp20 : Hid (x2 * y0 ≤ 20282409603651661416747996545025) := mul_le_b 4503599627370495 4503599627370495 (by omega) (by omega)
  have hp21 : Hid (x2 * y1 ≤ 20282409603651661416747996545025) := mul_le_b 4503599627370495 4503599627370495 (by omega) (by omega)
  have hp22 : Hid (x2 * y2 ≤ 20282409603651661416747996545025) := mul_le_b 4503599627370495 4503599627370495 (by omega) (by omega)
  have hp23 : Hid (x2 * y3 ≤ 20282409603651661416747996545025) := mul_le_b 4503599627370495 4503599627370495 (by omega) (by omega)
  have hp24 : Hid (x2 * y4 ≤ 20282409603651661416747996545025) := mul_le_b 4503599627370495 4503599627370495 (by omega) (by omega)
  have hq21 : Hid (x2 * z1 ≤ 385365782469381647983005227024385) := mul_le_b 4503599627370495 85568392920039423 (by omega) (by omega)
  have hq22 : Hid (x2 * z2 ≤ 385365782469381647983005227024385) := mul_le_b 4503599627370495 85568392920039423 (by omega) (by omega)
  have hq23 : Hid (x2 * z3 ≤ 385365782469381647983005227024385) := mul_le_b 4503599627370495 85568392920039423 (by omega) (by omega)
  have hq24 : Hid (x2 * z4 ≤ 385365782469381647983005227024385) := mul_le_b 4503599627370495 85568392920039423 (by omega) (by omega)
  have hp30 : Hid (x3 * y0 ≤ 20282409603651661416747996545025) := mul_le_b 4503599627370495 4503599627370495 (by omega) (by omega)
  have hp31 : Hid (x3 * y1 ≤ 20282409603651661416747996545025) := mul_le_b 4503599627370495 4503599627370495 (by omega) (by omega)
  have hp32 : Hid (x3 * y2 ≤ 20282409603651661416747996545025) := mul_le_b 4503599627370495 4503599627370495 (by omega) (by omega)
  have hp33 : Hid (x3 * y3 ≤ 20282409603651661416747996545025) := mul_le_b 4503599627370495 4503599627370495 (by omega) (by omega)
  have hp34 : Hid (x3 * y4 ≤ 20282409603651661416747996545025) := mul_le_b 4503599627370495 4503599627370495 (by omega) (by omega)
  have hq31 : Hid (x3 * z1 ≤ 385365782469381647983005227024385) := mul_le_b 4503599627370495 85568392920039423 (by omega) (by omega)
  have hq32 : Hid (x3 * z2 ≤ 385365782469381647983005227024385) := mul_le_b 4503599627370495 85568392920039423 (by omega) (by omega)
  have hq33 : Hid (x3 * z3 ≤ 385365782469381647983005227024385) := mul_le_b 4503599627370495 85568392920039423 (by omega) (by omega)
  have hq34 : Hid (x3 * z4 ≤ 385365782469381647983005227024385) := mul_le_b 4503599627370495 85568392920039423 (by omega) (by omega)
  have hp40 : Hid (x4 * y0 ≤ 20282409603651661416747996545025) := mul_le_b 4503599627370495 4503599627370495 (by omega) (by omega)
  have hp41 : Hid (x4 * y1 ≤ 20282409603651661416747996545025) := mul_le_b 4503599627370495 4503599627370495 (by omega) (by omega)
  have hp42 : Hid (x4 * y2 ≤ 20282409603651661416747996545025) := mul_le_b 4503599627370495 4503599627370495 (by omega) (by omega)
  have hp43 : Hid (x4 * y3 ≤ 20282409603651661416747996545025) := mul_le_b 4503599627370495 4503599627370495 (by omega) (by omega)
  have hp44 : Hid (x4 * y4 ≤ 20282409603651661416747996545025) := mul_le_b 4503599627370495 4503599627370495 (by omega) (by omega)
  have hq41 : Hid (x4 * z1 ≤ 385365782469381647983005227024385) := mul_le_b 4503599627370495 85568392920039423 (by omega) (by omega)
  have hq42 : Hid (x4 * z2 ≤ 385365782469381647983005227024385) := mul_le_b 4503599627370495 85568392920039423 (by omega) (by omega)
  have hq43 : Hid (x4 * z3 ≤ 385365782469381647983005227024385) := mul_le_b 4503599627370495 85568392920039423 (by omega) (by omega)
  have hq44 : Hid (x4 * z4 ≤ 385365782469381647983005227024385) := mul_le_b 4503599627370495 85568392920039423 (by omega) (by omega)
  have h56 : (Tryd.prog.info? 77).map (·.size) = some 2 := by kernel_rfl
  go_enter Tryd.func39, Tryd.ntmps39
  go_wp2_with fail
  go_quiet (fail)
  go_wp2_with fail
  go_quiet (fail)
  go_wp2_with fail
  refine (plus41_0 x0 y0 _ (by omega) (by omega)).mono ?_
  rintro e v1 ⟨rfl, hv1⟩
  have hB : Below w.heap.size w v1 := (below_drewN (below3 w _ _ _) _).trans (hv1.mono (by simp; omega))
  have hz : v1.heap[w.heap.size + 1 + 1]? = some (.cells z5 27 (0, 0)) := block_below hv1 (by simp) (heap3_2 _ _ _ _)
  clear hv1
  go_wp2_with fail
  refine (plus41 (x0 * y0) x1 z4 _ (by omega) (by omega) (by have := (hp00).out; have := (hq14).out; omega)).mono ?_
  rintro e v2 ⟨rfl, hv⟩
  have hB := hB.trans (hv.mono hB.size)
  have hz := block_below hv (lt_of_heap hz) hz
  clear hv
  go_wp2_with fail
  refine (plus41 (x0 * y0 + x1 * z4) x2 z3 _ (by omega) (by omega) (by have := (hp00).out; have := (hq14).out; have := (hq23).out; omega)).mono ?_
  rintro e v3 ⟨rfl, hv⟩
  have hB := hB.trans (hv.mono hB.size)
  have hz := block_below hv (lt_of_heap hz) hz
  clear hv
  go_wp2_with fail
  refine (plus41 (x0 * y0 + x1 * z4 + x2 * z3) x3 z2 _ (by omega) (by omega) (by have := (hp00).out; have := (hq14).out; have := (hq23).out; have := (hq32).out; omega)).mono ?_
  rintro e v4 ⟨rfl, hv⟩
  have hB := hB.trans (hv.mono hB.size)
  have hz := block_below hv (lt_of_heap hz) hz
  clear hv
  go_wp2_with fail
  refine (plus41 (x0 * y0 + x1 * z4 + x2 * z3 + x3 * z2) x4 z1 _ (by omega) (by omega) (by have := (hp00).out; have := (hq14).out; have := (hq23).out; have := (hq32).out; have := (hq41).out; omega)).mono ?_
  rintro e v5 ⟨rfl, hv⟩
  have hB := hB.trans (hv.mono hB.size)
  have hz := block_below hv (lt_of_heap hz) hz
  clear hv
  rw [← hs0.out]
  have hal : (v5.alloc (.cells #[.int .u64 0, .int .u64 0] 77)).heap[v5.heap.size]? = some (.cells #[.int .u64 0, .int .u64 0] 77 (0, 0)) := heap_alloc_new _ _
  go_wp2_with (refine wpList_store_row rfl 77 (.tmp 19) (.tmp 77) rfl _ (wdc s0) rfl rfl 77 _ hal h56 rfl (wdc_one _) ?_)
  have hB' : Hid (Below w.heap.size w ((v5.alloc (.cells #[.int .u64 0, .int .u64 0] 77)).setRow v5.heap.size (wdc s0))) := setRow_below (hB.alloc hB.size _) hB.size _
  have hg0' : Hid (((v5.alloc (.cells #[.int .u64 0, .int .u64 0] 77)).setRow v5.heap.size (wdc s0)).heap[v5.heap.size]? = some (.cells (wdc s0) 77 (0, 0))) := setRow_heap _ _ _ _ _ _ hal
  have hz' : Hid (((v5.alloc (.cells #[.int .u64 0, .int .u64 0] 77)).setRow v5.heap.size (wdc s0)).heap[_]? = some _) := (setRow_other _ _ _ _ (by have := lt_of_heap hz; omega)).trans ((heap_alloc_old _ _ (lt_of_heap hz)).trans hz)
  obtain ⟨g0, hgn⟩ : ∃ g, g = v5.heap.size := ⟨_, rfl⟩
  rw [← hgn] at hB' hz' hg0' ⊢
  generalize ((v5.alloc (.cells #[.int .u64 0, .int .u64 0] 77)).setRow g0 (wdc s0)) = u0 at hB' hz' hg0' ⊢
  clear hal hB hz hgn 
  have hB := hB'.out
  have hz := hz'.out
  have hg0 := hg0'.out
  clear hB' hz' hg0'
  refine (plus41_0 x0 y1 _ (by omega) (by omega)).mono ?_
  rintro e v1 ⟨rfl, hv1⟩
  have hB := hB.trans (hv1.mono hB.size)
  have hz := block_below hv1 (lt_of_heap hz) hz
  have hg0 := block_below hv1 (lt_of_heap hg0) hg0
  clear hv1
  go_wp2_with fail
  refine (plus41 (x0 * y1) x1 y0 _ (by omega) (by omega) (by have := (hp01).out; have := (hp10).out; omega)).mono ?_
  rintro e v2 ⟨rfl, hv⟩
  have hB := hB.trans (hv.mono hB.size)
  have hz := block_below hv (lt_of_heap hz) hz
  have hg0 := block_below hv (lt_of_heap hg0) hg0
  clear hv
  go_wp2_with fail
  refine (plus41 (x0 * y1 + x1 * y0) x2 z4 _ (by omega) (by omega) (by have := (hp01).out; have := (hp10).out; have := (hq24).out; omega)).mono ?_
  rintro e v3 ⟨rfl, hv⟩
  have hB := hB.trans (hv.mono hB.size)
  have hz := block_below hv (lt_of_heap hz) hz
  have hg0 := block_below hv (lt_of_heap hg0) hg0
  clear hv
  go_wp2_with fail
  refine (plus41 (x0 * y1 + x1 * y0 + x2 * z4) x3 z3 _ (by omega) (by omega) (by have := (hp01).out; have := (hp10).out; have := (hq24).out; have := (hq33).out; omega)).mono ?_
  rintro e v4 ⟨rfl, hv⟩
  have hB := hB.trans (hv.mono hB.size)
  have hz := block_below hv (lt_of_heap hz) hz
  have hg0 := block_below hv (lt_of_heap hg0) hg0
  clear hv
  go_wp2_with fail
  refine (plus41 (x0 * y1 + x1 * y0 + x2 * z4 + x3 * z3) x4 z2 _ (by omega) (by omega) (by have := (hp01).out; have := (hp10).out; have := (hq24).out; have := (hq33).out; have := (hq42).out; omega)).mono ?_
  rintro e v5 ⟨rfl, hv⟩
  have hB := hB.trans (hv.mono hB.size)
  have hz := block_below hv (lt_of_heap hz) hz
  have hg0 := block_below hv (lt_of_heap hg0) hg0
  clear hv
  rw [← hs1.out]
  have hal : (v5.alloc (.cells #[.int .u64 0, .int .u64 0] 77)).heap[v5.heap.size]? = some (.cells #[.int .u64 0, .int .u64 0] 77 (0, 0)) := heap_alloc_new _ _
  go_wp2_with (refine wpList_store_row rfl 77 (.tmp 20) (.tmp 93) rfl _ (wdc s1) rfl rfl 77 _ hal h56 rfl (wdc_one _) ?_)
  have hB' : Hid (Below w.heap.size w ((v5.alloc (.cells #[.int .u64 0, .int .u64 0] 77)).setRow v5.heap.size (wdc s1))) := setRow_below (hB.alloc hB.size _) hB.size _
  have hg1' : Hid (((v5.alloc (.cells #[.int .u64 0, .int .u64 0] 77)).setRow v5.heap.size (wdc s1)).heap[v5.heap.size]? = some (.cells (wdc s1) 77 (0, 0))) := setRow_heap _ _ _ _ _ _ hal
  have hz' : Hid (((v5.alloc (.cells #[.int .u64 0, .int .u64 0] 77)).setRow v5.heap.size (wdc s1)).heap[_]? = some _) := (setRow_other _ _ _ _ (by have := lt_of_heap hz; omega)).trans ((heap_alloc_old _ _ (lt_of_heap hz)).trans hz)
  have hg0' : Hid (((v5.alloc (.cells #[.int .u64 0, .int .u64 0] 77)).setRow v5.heap.size (wdc s1)).heap[_]? = some _) := (setRow_other _ _ _ _ (by have := lt_of_heap hg0; omega)).trans ((heap_alloc_old _ _ (lt_of_heap hg0)).trans hg0)
  obtain ⟨g1, hgn⟩ : ∃ g, g = v5.heap.size := ⟨_, rfl⟩
  rw [← hgn] at hB' hz' hg0' hg1' ⊢
  generalize ((v5.alloc (.cells #[.int .u64 0, .int .u64 0] 77)).setRow g1 (wdc s1)) = u1 at hB' hz' hg0' hg1' ⊢
  clear hal hB hz hgn hg0
  have hB := hB'.out
  have hz := hz'.out
  have hg0 := hg0'.out
  have hg1 := hg1'.out
  clear hB' hz' hg0' hg1'
  refine (plus41_0 x0 y2 _ (by omega) (by omega)).mono ?_
  rintro e v1 ⟨rfl, hv1⟩
  have hB := hB.trans (hv1.mono hB.size)
  have hz := block_below hv1 (lt_of_heap hz) hz
  have hg0 := block_below hv1 (lt_of_heap hg0) hg0
  have hg1 := block_below hv1 (lt_of_heap hg1) hg1
  clear hv1
  go_wp2_with fail
  refine (plus41 (x0 * y2) x1 y1 _ (by omega) (by omega) (by have := (hp02).out; have := (hp11).out; omega)).mono ?_
  rintro e v2 ⟨rfl, hv⟩
  have hB := hB.trans (hv.mono hB.size)
  have hz := block_below hv (lt_of_heap hz) hz
  have hg0 := block_below hv (lt_of_heap hg0) hg0
  have hg1 := block_below hv (lt_of_heap hg1) hg1
  clear hv
  go_wp2_with fail
  refine (plus41 (x0 * y2 + x1 * y1) x2 y0 _ (by omega) (by omega) (by have := (hp02).out; have := (hp11).out; have := (hp20).out; omega)).mono ?_
  rintro e v3 ⟨rfl, hv⟩
  have hB := hB.trans (hv.mono hB.size)
  have hz := block_below hv (lt_of_heap hz) hz
  have hg0 := block_below hv (lt_of_heap hg0) hg0
  have hg1 := block_below hv (lt_of_heap hg1) hg1
  clear hv
  go_wp2_with fail
  refine (plus41 (x0 * y2 + x1 * y1 + x2 * y0) x3 z4 _ (by omega) (by omega) (by have := (hp02).out; have := (hp11).out; have := (hp20).out; have := (hq34).out; omega)).mono ?_
  rintro e v4 ⟨rfl, hv⟩
  have hB := hB.trans (hv.mono hB.size)
  have hz := block_below hv (lt_of_heap hz) hz
  have hg0 := block_below hv (lt_of_heap hg0) hg0
  have hg1 := block_below hv (lt_of_heap hg1) hg1
  clear hv
  go_wp2_with fail
  refine (plus41 (x0 * y2 + x1 * y1 + x2 * y0 + x3 * z4) x4 z3 _ (by omega) (by omega) (by have := (hp02).out; have := (hp11).out; have := (hp20).out; have := (hq34).out; have := (hq43).out; omega)).mono ?_
  rintro e v5 ⟨rfl, hv⟩
  have hB := hB.trans (hv.mono hB.size)
  have hz := block_below hv (lt_of_heap hz) hz
  have hg0 := block_below hv (lt_of_heap hg0) hg0
  have hg1 := block_below hv (lt_of_heap hg1) hg1
  clear hv
  rw [← hs2.out]
  have hal : (v5.alloc (.cells #[.int .u64 0, .int .u64 0] 77)).heap[v5.heap.size]? = some (.cells #[.int .u64 0, .int .u64 0] 77 (0, 0)) := heap_alloc_new _ _
  go_wp2_with (refine wpList_store_row rfl 77 (.tmp 21) (.tmp 109) rfl _ (wdc s2) rfl rfl 77 _ hal h56 rfl (wdc_one _) ?_)
  have hB' : Hid (Below w.heap.size w ((v5.alloc (.cells #[.int .u64 0, .int .u64 0] 77)).setRow v5.heap.size (wdc s2))) := setRow_below (hB.alloc hB.size _) hB.size _
  have hg2' : Hid (((v5.alloc (.cells #[.int .u64 0, .int .u64 0] 77)).setRow v5.heap.size (wdc s2)).heap[v5.heap.size]? = some (.cells (wdc s2) 77 (0, 0))) := setRow_heap _ _ _ _ _ _ hal
  have hz' : Hid (((v5.alloc (.cells #[.int .u64 0, .int .u64 0] 77)).setRow v5.heap.size (wdc s2)).heap[_]? = some _) := (setRow_other _ _ _ _ (by have := lt_of_heap hz; omega)).trans ((heap_alloc_old _ _ (lt_of_heap hz)).trans hz)
  have hg0' : Hid (((v5.alloc (.cells #[.int .u64 0, .int .u64 0] 77)).setRow v5.heap.size (wdc s2)).heap[_]? = some _) := (setRow_other _ _ _ _ (by have := lt_of_heap hg0; omega)).trans ((heap_alloc_old _ _ (lt_of_heap hg0)).trans hg0)
  have hg1' : Hid (((v5.alloc (.cells #[.int .u64 0, .int .u64 0] 77)).setRow v5.heap.size (wdc s2)).heap[_]? = some _) := (setRow_other _ _ _ _ (by have := lt_of_heap hg1; omega)).trans ((heap_alloc_old _ _ (lt_of_heap hg1)).trans hg1)
  obtain ⟨g2, hgn⟩ : ∃ g, g = v5.heap.size := ⟨_, rfl⟩
  rw [← hgn] at hB' hz' hg0' hg1' hg2' ⊢
  generalize ((v5.alloc (.cells #[.int .u64 0, .int .u64 0] 77)).setRow g2 (wdc s2)) = u2 at hB' hz' hg0' hg1' hg2' ⊢
  clear hal hB hz hgn hg0 hg1
  have hB := hB'.out
  have hz := hz'.out
  have hg0 := hg0'.out
  have hg1 := hg1'.out
  have hg2 := hg2'.out
  clear hB' hz' hg0' hg1' hg2'
  refine (plus41_0 x0 y3 _ (by omega) (by omega)).mono ?_
  rintro e v1 ⟨rfl, hv1⟩
  have hB := hB.trans (hv1.mono hB.size)
  have hz := block_below hv1 (lt_of_heap hz) hz
  have hg0 := block_below hv1 (lt_of_heap hg0) hg0
  have hg1 := block_below hv1 (lt_of_heap hg1) hg1
  have hg2 := block_below hv1 (lt_of_heap hg2) hg2
  clear hv1
  go_wp2_with fail
  refine (plus41 (x0 * y3) x1 y2 _ (by omega) (by omega) (by have := (hp03).out; have := (hp12).out; omega)).mono ?_
  rintro e v2 ⟨rfl, hv⟩
  have hB := hB.trans (hv.mono hB.size)
  have hz := block_below hv (lt_of_heap hz) hz
  have hg0 := block_below hv (lt_of_heap hg0) hg0
  have hg1 := block_below hv (lt_of_heap hg1) hg1
  have hg2 := block_below hv (lt_of_heap hg2) hg2
  clear hv
  go_wp2_with fail
  refine (plus41 (x0 * y3 + x1 * y2) x2 y1 _ (by omega) (by omega) (by have := (hp03).out; have := (hp12).out; have := (hp21).out; omega)).mono ?_
  rintro e v3 ⟨rfl, hv⟩
  have hB := hB.trans (hv.mono hB.size)
  have hz := block_below hv (lt_of_heap hz) hz
  have hg0 := block_below hv (lt_of_heap hg0) hg0
  have hg1 := block_below hv (lt_of_heap hg1) hg1
  have hg2 := block_below hv (lt_of_heap hg2) hg2
  clear hv
  go_wp2_with fail
  refine (plus41 (x0 * y3 + x1 * y2 + x2 * y1) x3 y0 _ (by omega) (by omega) (by have := (hp03).out; have := (hp12).out; have := (hp21).out; have := (hp30).out; omega)).mono ?_
  rintro e v4 ⟨rfl, hv⟩
  have hB := hB.trans (hv.mono hB.size)
  have hz := block_below hv (lt_of_heap hz) hz
  have hg0 := block_below hv (lt_of_heap hg0) hg0
  have hg1 := block_below hv (lt_of_heap hg1) hg1
  have hg2 := block_below hv (lt_of_heap hg2) hg2
  clear hv
  go_wp2_with fail
  refine (plus41 (x0 * y3 + x1 * y2 + x2 * y1 + x3 * y0) x4 z4 _ (by omega) (by omega) (by have := (hp03).out; have := (hp12).out; have := (hp21).out; have := (hp30).out; have := (hq44).out; omega)).mono ?_
  rintro e v5 ⟨rfl, hv⟩
  have hB := hB.trans (hv.mono hB.size)
  have hz := block_below hv (lt_of_heap hz) hz
  have hg0 := block_below hv (lt_of_heap hg0) hg0
  have hg1 := block_below hv (lt_of_heap hg1) hg1
  have hg2 := block_below hv (lt_of_heap hg2) hg2
  clear hv
  rw [← hs3.out]
  have hal : (v5.alloc (.cells #[.int .u64 0, .int .u64 0] 77)).heap[v5.heap.size]? = some (.cells #[.int .u64 0, .int .u64 0] 77 (0, 0)) := heap_alloc_new _ _
  go_wp2_with (refine wpList_store_row rfl 77 (.tmp 22) (.tmp 125) rfl _ (wdc s3) rfl rfl 77 _ hal h56 rfl (wdc_one _) ?_)
  have hB' : Hid (Below w.heap.size w ((v5.alloc (.cells #[.int .u64 0, .int .u64 0] 77)).setRow v5.heap.size (wdc s3))) := setRow_below (hB.alloc hB.size _) hB.size _
  have hg3' : Hid (((v5.alloc (.cells #[.int .u64 0, .int .u64 0] 77)).setRow v5.heap.size (wdc s3)).heap[v5.heap.size]? = some (.cells (wdc s3) 77 (0, 0))) := setRow_heap _ _ _ _ _ _ hal
  have hz' : Hid (((v5.alloc (.cells #[.int .u64 0, .int .u64 0] 77)).setRow v5.heap.size (wdc s3)).heap[_]? = some _) := (setRow_other _ _ _ _ (by have := lt_of_heap hz; omega)).trans ((heap_alloc_old _ _ (lt_of_heap hz)).trans hz)
  have hg0' : Hid (((v5.alloc (.cells #[.int .u64 0, .int .u64 0] 77)).setRow v5.heap.size (wdc s3)).heap[_]? = some _) := (setRow_other _ _ _ _ (by have := lt_of_heap hg0; omega)).trans ((heap_alloc_old _ _ (lt_of_heap hg0)).trans hg0)
  have hg1' : Hid (((v5.alloc (.cells #[.int .u64 0, .int .u64 0] 77)).setRow v5.heap.size (wdc s3)).heap[_]? = some _) := (setRow_other _ _ _ _ (by have := lt_of_heap hg1; omega)).trans ((heap_alloc_old _ _ (lt_of_heap hg1)).trans hg1)
  have hg2' : Hid (((v5.alloc (.cells #[.int .u64 0, .int .u64 0] 77)).setRow v5.heap.size (wdc s3)).heap[_]? = some _) := (setRow_other _ _ _ _ (by have := lt_of_heap hg2; omega)).trans ((heap_alloc_old _ _ (lt_of_heap hg2)).trans hg2)
  obtain ⟨g3, hgn⟩ : ∃ g, g = v5.heap.size := ⟨_, rfl⟩
  rw [← hgn] at hB' hz' hg0' hg1' hg2' hg3' ⊢
  generalize ((v5.alloc (.cells #[.int .u64 0, .int .u64 0] 77)).setRow g3 (wdc s3)) = u3 at hB' hz' hg0' hg1' hg2' hg3' ⊢
  clear hal hB hz hgn hg0 hg1 hg2
  have hB := hB'.out
  have hz := hz'.out
  have hg0 := hg0'.out
  have hg1 := hg1'.out
  have hg2 := hg2'.out
  have hg3 := hg3'.out
  clear hB' hz' hg0' hg1' hg2' hg3'
  refine (plus41_0 x0 y4 _ (by omega) (by omega)).mono ?_
  rintro e v1 ⟨rfl, hv1⟩
  have hB := hB.trans (hv1.mono hB.size)
  have hz := block_below hv1 (lt_of_heap hz) hz
  have hg0 := block_below hv1 (lt_of_heap hg0) hg0
  have hg1 := block_below hv1 (lt_of_heap hg1) hg1
  have hg2 := block_below hv1 (lt_of_heap hg2) hg2
  have hg3 := block_below hv1 (lt_of_heap hg3) hg3
  clear hv1
  go_wp2_with fail
  refine (plus41 (x0 * y4) x1 y3 _ (by omega) (by omega) (by have := (hp04).out; have := (hp13).out; omega)).mono ?_
  rintro e v2 ⟨rfl, hv⟩
  have hB := hB.trans (hv.mono hB.size)
  have hz := block_below hv (lt_of_heap hz) hz
  have hg0 := block_below hv (lt_of_heap hg0) hg0
  have hg1 := block_below hv (lt_of_heap hg1) hg1
  have hg2 := block_below hv (lt_of_heap hg2) hg2
  have hg3 := block_below hv (lt_of_heap hg3) hg3
  clear hv
  go_wp2_with fail
  refine (plus41 (x0 * y4 + x1 * y3) x2 y2 _ (by omega) (by omega) (by have := (hp04).out; have := (hp13).out; have := (hp22).out; omega)).mono ?_
  rintro e v3 ⟨rfl, hv⟩
  have hB := hB.trans (hv.mono hB.size)
  have hz := block_below hv (lt_of_heap hz) hz
  have hg0 := block_below hv (lt_of_heap hg0) hg0
  have hg1 := block_below hv (lt_of_heap hg1) hg1
  have hg2 := block_below hv (lt_of_heap hg2) hg2
  have hg3 := block_below hv (lt_of_heap hg3) hg3
  clear hv
  go_wp2_with fail
  refine (plus41 (x0 * y4 + x1 * y3 + x2 * y2) x3 y1 _ (by omega) (by omega) (by have := (hp04).out; have := (hp13).out; have := (hp22).out; have := (hp31).out; omega)).mono ?_
  rintro e v4 ⟨rfl, hv⟩
  have hB := hB.trans (hv.mono hB.size)
  have hz := block_below hv (lt_of_heap hz) hz
  have hg0 := block_below hv (lt_of_heap hg0) hg0
  have hg1 := block_below hv (lt_of_heap hg1) hg1
  have hg2 := block_below hv (lt_of_heap hg2) hg2
  have hg3 := block_below hv (lt_of_heap hg3) hg3
  clear hv
  go_wp2_with fail
  refine (plus41 (x0 * y4 + x1 * y3 + x2 * y2 + x3 * y1) x4 y0 _ (by omega) (by omega) (by have := (hp04).out; have := (hp13).out; have := (hp22).out; have := (hp31).out; have := (hp40).out; omega)).mono ?_
  rintro e v5 ⟨rfl, hv⟩
  have hB := hB.trans (hv.mono hB.size)
  have hz := block_below hv (lt_of_heap hz) hz
  have hg0 := block_below hv (lt_of_heap hg0) hg0
  have hg1 := block_below hv (lt_of_heap hg1) hg1
  have hg2 := block_below hv (lt_of_heap hg2) hg2
  have hg3 := block_below hv (lt_of_heap hg3) hg3
  clear hv
  rw [← hs4.out]
  have hal : (v5.alloc (.cells #[.int .u64 0, .int .u64 0] 77)).heap[v5.heap.size]? = some (.cells #[.int .u64 0, .int .u64 0] 77 (0, 0)) := heap_alloc_new _ _
  go_wp2_with (refine wpList_store_row rfl 77 (.tmp 23) (.tmp 141) rfl _ (wdc s4) rfl rfl 77 _ hal h56 rfl (wdc_one _) ?_)
  have hB' : Hid (Below w.heap.size w ((v5.alloc (.cells #[.int .u64 0, .int .u64 0] 77)).setRow v5.heap.size (wdc s4))) := setRow_below (hB.alloc hB.size _) hB.size _
  have hg4' : Hid (((v5.alloc (.cells #[.int .u64 0, .int .u64 0] 77)).setRow v5.heap.size (wdc s4)).heap[v5.heap.size]? = some (.cells (wdc s4) 77 (0, 0))) := setRow_heap _ _ _ _ _ _ hal
  have hz' : Hid (((v5.alloc (.cells #[.int .u64 0, .int .u64 0] 77)).setRow v5.heap.size (wdc s4)).heap[_]? = some _) := (setRow_other _ _ _ _ (by have := lt_of_heap hz; omega)).trans ((heap_alloc_old _ _ (lt_of_heap hz)).trans hz)
  have hg0' : Hid (((v5.alloc (.cells #[.int .u64 0, .int .u64 0] 77)).setRow v5.heap.size (wdc s4)).heap[_]? = some _) := (setRow_other _ _ _ _ (by have := lt_of_heap hg0; omega)).trans ((heap_alloc_old _ _ (lt_of_heap hg0)).trans hg0)
  have hg1' : Hid (((v5.alloc (.cells #[.int .u64 0, .int .u64 0] 77)).setRow v5.heap.size (wdc s4)).heap[_]? = some _) := (setRow_other _ _ _ _ (by have := lt_of_heap hg1; omega)).trans ((heap_alloc_old _ _ (lt_of_heap hg1)).trans hg1)
  have hg2' : Hid (((v5.alloc (.cells #[.int .u64 0, .int .u64 0] 77)).setRow v5.heap.size (wdc s4)).heap[_]? = some _) := (setRow_other _ _ _ _ (by have := lt_of_heap hg2; omega)).trans ((heap_alloc_old _ _ (lt_of_heap hg2)).trans hg2)
  have hg3' : Hid (((v5.alloc (.cells #[.int .u64 0, .int .u64 0] 77)).setRow v5.heap.size (wdc s4)).heap[_]? = some _) := (setRow_other _ _ _ _ (by have := lt_of_heap hg3; omega)).trans ((heap_alloc_old _ _ (lt_of_heap hg3)).trans hg3)
  obtain ⟨g4, hgn⟩ : ∃ g, g = v5.heap.size := ⟨_, rfl⟩
  rw [← hgn] at hB' hz' hg0' hg1' hg2' hg3' hg4' ⊢
  generalize ((v5.alloc (.cells #[.int .u64 0, .int .u64 0] 77)).setRow g4 (wdc s4)) = u4 at hB' hz' hg0' hg1' hg2' hg3' hg4' ⊢
  clear hal hB hz hgn hg0 hg1 hg2 hg3
  have hB := hB'.out
  have hz := hz'.out
  have hg0 := hg0'.out
  have hg1 := hg1'.out
  have hg2 := hg2'.out
  have hg3 := hg3'.out
  have hg4 := hg4'.out
  clear hB' hz' hg0' hg1' hg2' hg3' hg4'
  refine wp_region_quiet_tail 27 (by kernel_rfl) (by kernel_rfl) ?_
  simp only [List.take_succ_cons, List.take_zero, List.drop_succ_cons, List.drop_zero]
  show wpQuiet _ _ (Cls u4) (fun a' => ∀ w', Cls u4 w' → wpList _ _ _ _ a' w') _ _
  refine wpQuiet_load_row (some 142) rfl rfl 77 (.tmp 19) rfl g0 rfl 77 (wdc s0) (0, 0) _ (fun _ hw => hw.heap hg0) Tryd.underlying77 rfl h56 ?_
  simp only [Act.put, List.setIfInBounds_toArray, List.set_cons_succ, List.set_cons_zero]
  refine wpQuiet_call (some 143) (.int .u64 (r0 : Int)) 64 #[.agg (wdc s0)] rfl rfl (fun _ => by kernel_rfl) (fun w1 hw => cls_call hw (RE0 w1)) ?_
  simp only [Act.put, List.setIfInBounds_toArray, List.set_cons_succ, List.set_cons_zero]
  refine wpQuiet_load_row (some 144) rfl rfl 77 (.tmp 23) rfl g4 rfl 77 (wdc s4) (0, 0) _ (fun _ hw => hw.heap hg4) Tryd.underlying77 rfl h56 ?_
  simp only [Act.put, List.setIfInBounds_toArray, List.set_cons_succ, List.set_cons_zero]
  refine wpQuiet_call (some 145) (.int .u64 (c4 : Int)) 65 #[.agg (wdc s4)] rfl rfl (fun _ => by kernel_rfl) (fun w1 hw => cls_call hw (CA4 w1)) ?_
  simp only [Act.put, List.setIfInBounds_toArray, List.set_cons_succ, List.set_cons_zero]
  refine wpQuiet_run (some 146) (.int .u64 (19 * (c4 : Int))) rfl rfl (fun _ _ => run_mul23 19 (c4 : Int) rfl rfl rfl (by omega) (by omega)) ?_
  simp only [Act.put, List.setIfInBounds_toArray, List.set_cons_succ, List.set_cons_zero]
  refine wpQuiet_run (some 147) (.int .u64 ((r0 : Int) + (19 * (c4 : Int)))) rfl rfl (fun _ _ => run_add23 (r0 : Int) (19 * (c4 : Int)) rfl rfl rfl (by omega) (by omega)) ?_
  simp only [Act.put, List.setIfInBounds_toArray, List.set_cons_succ, List.set_cons_zero]
  refine wpQuiet_load_row (some 148) rfl rfl 77 (.tmp 20) rfl g1 rfl 77 (wdc s1) (0, 0) _ (fun _ hw => hw.heap hg1) Tryd.underlying77 rfl h56 ?_
  simp only [Act.put, List.setIfInBounds_toArray, List.set_cons_succ, List.set_cons_zero]
  refine wpQuiet_call (some 149) (.int .u64 (r1 : Int)) 64 #[.agg (wdc s1)] rfl rfl (fun _ => by kernel_rfl) (fun w1 hw => cls_call hw (RE1 w1)) ?_
  simp only [Act.put, List.setIfInBounds_toArray, List.set_cons_succ, List.set_cons_zero]
  refine wpQuiet_load_row (some 150) rfl rfl 77 (.tmp 19) rfl g0 rfl 77 (wdc s0) (0, 0) _ (fun _ hw => hw.heap hg0) Tryd.underlying77 rfl h56 ?_
  simp only [Act.put, List.setIfInBounds_toArray, List.set_cons_succ, List.set_cons_zero]
  refine wpQuiet_call (some 151) (.int .u64 (c0 : Int)) 65 #[.agg (wdc s0)] rfl rfl (fun _ => by kernel_rfl) (fun w1 hw => cls_call hw (CA0 w1)) ?_
  simp only [Act.put, List.setIfInBounds_toArray, List.set_cons_succ, List.set_cons_zero]
  refine wpQuiet_run (some 152) (.int .u64 ((r1 : Int) + (c0 : Int))) rfl rfl (fun _ _ => run_add23 (r1 : Int) (c0 : Int) rfl rfl rfl (by omega) (by omega)) ?_
  simp only [Act.put, List.setIfInBounds_toArray, List.set_cons_succ, List.set_cons_zero]
  refine wpQuiet_load_row (some 153) rfl rfl 77 (.tmp 21) rfl g2 rfl 77 (wdc s2) (0, 0) _ (fun _ hw => hw.heap hg2) Tryd.underlying77 rfl h56 ?_
  simp only [Act.put, List.setIfInBounds_toArray, List.set_cons_succ, List.set_cons_zero]
  refine wpQuiet_call (some 154) (.int .u64 (r2 : Int)) 64 #[.agg (wdc s2)] rfl rfl (fun _ => by kernel_rfl) (fun w1 hw => cls_call hw (RE2 w1)) ?_
  simp only [Act.put, List.setIfInBounds_toArray, List.set_cons_succ, List.set_cons_zero]
  refine wpQuiet_load_row (some 155) rfl rfl 77 (.tmp 20) rfl g1 rfl 77 (wdc s1) (0, 0) _ (fun _ hw => hw.heap hg1) Tryd.underlying77 rfl h56 ?_
  simp only [Act.put, List.setIfInBounds_toArray, List.set_cons_succ, List.set_cons_zero]
  refine wpQuiet_call (some 156) (.int .u64 (c1 : Int)) 65 #[.agg (wdc s1)] rfl rfl (fun _ => by kernel_rfl) (fun w1 hw => cls_call hw (CA1 w1)) ?_
  simp only [Act.put, List.setIfInBounds_toArray, List.set_cons_succ, List.set_cons_zero]
  refine wpQuiet_run (some 157) (.int .u64 ((r2 : Int) + (c1 : Int))) rfl rfl (fun _ _ => run_add23 (r2 : Int) (c1 : Int) rfl rfl rfl (by omega) (by omega)) ?_
  simp only [Act.put, List.setIfInBounds_toArray, List.set_cons_succ, List.set_cons_zero]
  refine wpQuiet_load_row (some 158) rfl rfl 77 (.tmp 22) rfl g3 rfl 77 (wdc s3) (0, 0) _ (fun _ hw => hw.heap hg3) Tryd.underlying77 rfl h56 ?_
  simp only [Act.put, List.setIfInBounds_toArray, List.set_cons_succ, List.set_cons_zero]
  refine wpQuiet_call (some 159) (.int .u64 (r3 : Int)) 64 #[.agg (wdc s3)] rfl rfl (fun _ => by kernel_rfl) (fun w1 hw => cls_call hw (RE3 w1)) ?_
  simp only [Act.put, List.setIfInBounds_toArray, List.set_cons_succ, List.set_cons_zero]
  refine wpQuiet_load_row (some 160) rfl rfl 77 (.tmp 21) rfl g2 rfl 77 (wdc s2) (0, 0) _ (fun _ hw => hw.heap hg2) Tryd.underlying77 rfl h56 ?_
  simp only [Act.put, List.setIfInBounds_toArray, List.set_cons_succ, List.set_cons_zero]
  refine wpQuiet_call (some 161) (.int .u64 (c2 : Int)) 65 #[.agg (wdc s2)] rfl rfl (fun _ => by kernel_rfl) (fun w1 hw => cls_call hw (CA2 w1)) ?_
  simp only [Act.put, List.setIfInBounds_toArray, List.set_cons_succ, List.set_cons_zero]
  refine wpQuiet_run (some 162) (.int .u64 ((r3 : Int) + (c2 : Int))) rfl rfl (fun _ _ => run_add23 (r3 : Int) (c2 : Int) rfl rfl rfl (by omega) (by omega)) ?_
  simp only [Act.put, List.setIfInBounds_toArray, List.set_cons_succ, List.set_cons_zero]
  refine wpQuiet_load_row (some 163) rfl rfl 77 (.tmp 23) rfl g4 rfl 77 (wdc s4) (0, 0) _ (fun _ hw => hw.heap hg4) Tryd.underlying77 rfl h56 ?_
  simp only [Act.put, List.setIfInBounds_toArray, List.set_cons_succ, List.set_cons_zero]
  refine wpQuiet_call (some 164) (.int .u64 (r4 : Int)) 64 #[.agg (wdc s4)] rfl rfl (fun _ => by kernel_rfl) (fun w1 hw => cls_call hw (RE4 w1)) ?_
  simp only [Act.put, List.setIfInBounds_toArray, List.set_cons_succ, List.set_cons_zero]
  refine wpQuiet_load_row (some 165) rfl rfl 77 (.tmp 22) rfl g3 rfl 77 (wdc s3) (0, 0) _ (fun _ hw => hw.heap hg3) Tryd.underlying77 rfl h56 ?_
  simp only [Act.put, List.setIfInBounds_toArray, List.set_cons_succ, List.set_cons_zero]
  refine wpQuiet_call (some 166) (.int .u64 (c3 : Int)) 65 #[.agg (wdc s3)] rfl rfl (fun _ => by kernel_rfl) (fun w1 hw => cls_call hw (CA3 w1)) ?_
  simp only [Act.put, List.setIfInBounds_toArray, List.set_cons_succ, List.set_cons_zero]
  refine wpQuiet_run (some 167) (.int .u64 ((r4 : Int) + (c3 : Int))) rfl rfl (fun _ _ => run_add23 (r4 : Int) (c3 : Int) rfl rfl rfl (by omega) (by omega)) ?_
  simp only [Act.put, List.setIfInBounds_toArray, List.set_cons_succ, List.set_cons_zero]
  refine wpQuiet_call (some 168) (.agg rv) 63 #[.int .u64 ((r0 : Int) + 19 * (c4 : Int)), .int .u64 ((r1 : Int) + (c0 : Int)), .int .u64 ((r2 : Int) + (c1 : Int)), .int .u64 ((r3 : Int) + (c2 : Int)), .int .u64 ((r4 : Int) + (c3 : Int))] rfl rfl (fun _ => by kernel_rfl) (fun w1 hw => cls_call hw (hc w1)) ?_
  simp only [Act.put, List.setIfInBounds_toArray, List.set_cons_succ, List.set_cons_zero]
  refine wpQuiet_nil ?_
  intro w1 hw
  have hz := hw.heap hz
  have hb := hB.trans (hw.below.mono hB.size)
  refine wpList_store_row rfl 27 (.tmp 4) (.tmp 168) rfl _ rv rfl rfl 27 _ hz (by rw [hrl]; exact info26) (by rw [hrl]; rfl) hrw ?_
  simp only [Act.put]
  go_wp2_with fail
  refine bodyPost_ret (v := .agg rv) ?_ rfl ⟨rfl, setRow_below hb (by omega) _⟩
  exact results_cell_row Tryd.results39 _ _ _ 27 rv (0, 0) _ rfl (setRow_heap _ _ _ _ _ _ hz) Tryd.underlying27 rfl (by rw [hrl]; exact info26)
theorem mul24 (a b : E5) (w : World) (ha : a.wf) (hb : b.wf) : Calls Tryd.prog 39 #[.agg (elc a), .agg (elc b)] w fun e w' => e = .returned (.agg (elc (mulE a b))) ∧ Below w.heap.size w w' := by
  obtain ⟨l0, l1, l2, l3, l4⟩ := sm_lt ha hb
  exact mul24' a.a0 a.a1 a.a2 a.a3 a.a4 b.a0 b.a1 b.a2 b.a3 b.a4 w ha.1 ha.2.1 ha.2.2.1 ha.2.2.2.1 ha.2.2.2.2 hb.1 hb.2.1 hb.2.2.1 hb.2.2.2.1 hb.2.2.2.2 (sm0 a b) (sm1 a b) (sm2 a b) (sm3 a b) (sm4 a b) rfl rfl rfl rfl rfl l0 l1 l2 l3 l4
end Go.Proofs.YtpfcboakafbnlaaDoor
