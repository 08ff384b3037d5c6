/-
  The walks of carried, ofWord, Mul64, plus, rest, carry.
-/
import Derived.Test.YtpfcboakafbnlaaDoorProg
import Derived.Test.YtpfcboakafbnlaaDoorCells
import Derived.WalkKit
import Derived.BigQuiet
import Derived.WalkSmall
import Derived.Laws.Externs
import Derived.Laws.Bits64b
set_option linter.unusedVariables false
namespace Go.Proofs.YtpfcboakafbnlaaDoor
open Go.RowKit Go.Sort Go.BigFrame
set_option maxRecDepth 100000
set_option maxHeartbeats 2000000
def elc (e : E5) : Array Value := #[.int .u64 (e.a0 : Int), .int .u64 (e.a1 : Int), .int .u64 (e.a2 : Int), .int .u64 (e.a3 : Int), .int .u64 (e.a4 : Int)]
theorem and51 (x : Nat) (hx : x < 18446744073709551616) : bits .and .u64 (x : Int) 2251799813685247 = ((x % 2251799813685248 : Nat) : Int) := by
  have := bits_and_u64_nat x 2251799813685247 hx (by decide)
  rw [show (2251799813685247 : Nat) = 2 ^ 51 - 1 from rfl, Nat.and_two_pow_sub_one_eq_mod] at this
  exact this
theorem and32 (x : Nat) (hx : x < 18446744073709551616) : bits .and .u64 (x : Int) 4294967295 = ((x % 4294967296 : Nat) : Int) := by
  have := bits_and_u64_nat x 4294967295 hx (by decide)
  rw [show (4294967295 : Nat) = 2 ^ 32 - 1 from rfl, Nat.and_two_pow_sub_one_eq_mod] at this
  exact this
theorem carried39 (l0 l1 l2 l3 l4 : Nat) (w : World) (h0 : l0 < 18446744073709551616) (h1 : l1 < 18446744073709551616) (h2 : l2 < 18446744073709551616) (h3 : l3 < 18446744073709551616) (h4 : l4 < 18446744073709551616) :
    Calls Tryd.prog 63 #[.int .u64 l0, .int .u64 l1, .int .u64 l2, .int .u64 l3, .int .u64 l4] w fun e w' => e = .returned (.agg (elc (carE l0 l1 l2 l3 l4))) ∧ Below w.heap.size w w' := by
  have e0 := and51 l0 h0
  have e1 := and51 l1 h1
  have e2 := and51 l2 h2
  have e3 := and51 l3 h3
  have e4 := and51 l4 h4
  go_enter Tryd.func63, Tryd.ntmps63
  go_wp2
  exact bodyPost_ret (v := .agg (elc (carE l0 l1 l2 l3 l4))) (by simp [results, Tryd.results63, go_sem, elc, carE]) rfl ⟨rfl, below1 _ _⟩
theorem ofWord37 (n : Nat) (w : World) (h : n < 18446744073709551616) :
    Calls Tryd.prog 71 #[.int .u64 n] w fun e w' => e = .returned (.agg (elc ⟨n % 2251799813685248, n / 2251799813685248, 0, 0, 0⟩)) ∧ Below w.heap.size w w' := by
  have e0 := and51 n h
  go_enter Tryd.func71, Tryd.ntmps71
  go_wp2
  exact bodyPost_ret (v := .agg (elc ⟨n % 2251799813685248, n / 2251799813685248, 0, 0, 0⟩)) (by simp [results, Tryd.results71, go_sem, elc]) rfl ⟨rfl, below1 _ _⟩
theorem wrapu (t : Int) (h0 : 0 ≤ t) (h : t < 18446744073709551616) : IntKind.u64.wrap t = t := by
  simp [IntKind.wrap, IntKind.bits, IntKind.signed]; omega
theorem wrapm (t : Int) : IntKind.u64.wrap t = t % 18446744073709551616 := by
  simp [IntKind.wrap, IntKind.bits, IntKind.signed]
theorem hi64 (p1 p2 p3 p4 : Nat) (h1 : p1 ≤ 18446744065119617025) (h2 : p2 ≤ 18446744065119617025) (h3 : p3 ≤ 18446744065119617025) (h4 : p4 ≤ 18446744065119617025) :
    IntKind.u64.wrap (IntKind.u64.wrap (IntKind.u64.wrap (p4 : Int) + IntKind.u64.wrap (IntKind.u64.wrap (p2 : Int) + IntKind.u64.wrap (p1 : Int) / 4294967296) / 4294967296) + IntKind.u64.wrap (bits BinOp.and IntKind.u64 (IntKind.u64.wrap (IntKind.u64.wrap (p2 : Int) + IntKind.u64.wrap (p1 : Int) / 4294967296)) 4294967295 + IntKind.u64.wrap (p3 : Int)) / 4294967296)
      = (((p1 + 4294967296 * (p2 + p3) + 18446744073709551616 * p4) / 18446744073709551616 : Nat) : Int) := by
  rw [wrapu (p1 : Int) (by omega) (by omega), wrapu (p2 : Int) (by omega) (by omega), wrapu (p3 : Int) (by omega) (by omega), wrapu (p4 : Int) (by omega) (by omega)]
  rw [wrapu ((p2 : Int) + (p1 : Int) / 4294967296) (by omega) (by omega)]
  have e : ((p2 : Int) + (p1 : Int) / 4294967296) = ((p2 + p1 / 4294967296 : Nat) : Int) := by simp
  rw [e, and32 _ (by omega), wrapu (((p2 + p1 / 4294967296) % 4294967296 : Nat) + (p3 : Int)) (by omega) (by omega), wrapm, wrapm]
  omega
theorem mulle (a b : Nat) (ha : a ≤ 4294967295) (hb : b ≤ 4294967295) : a * b ≤ 18446744065119617025 := Nat.mul_le_mul ha hb
theorem mulsplit (x y : Nat) : x * y = (x % 4294967296) * (y % 4294967296) + 4294967296 * ((x / 4294967296) * (y % 4294967296) + (x % 4294967296) * (y / 4294967296)) + 18446744073709551616 * ((x / 4294967296) * (y / 4294967296)) := by
  obtain ⟨a, ha⟩ : ∃ a, a = x % 4294967296 := ⟨_, rfl⟩
  obtain ⟨b, hb⟩ : ∃ a, a = x / 4294967296 := ⟨_, rfl⟩
  obtain ⟨c, hc⟩ : ∃ a, a = y % 4294967296 := ⟨_, rfl⟩
  obtain ⟨d, hd⟩ : ∃ a, a = y / 4294967296 := ⟨_, rfl⟩
  rw [← ha, ← hb, ← hc, ← hd]
  have hx : x = a + 4294967296 * b := by omega
  have hy : y = c + 4294967296 * d := by omega
  rw [hx, hy]
  grind
theorem mul45 (x y : Nat) (w : World) (hx : x < 18446744073709551616) (hy : y < 18446744073709551616) :
    Calls Tryd.prog 72 #[.int .u64 x, .int .u64 y] w fun e w' => e = .returned (.tuple #[.int .u64 ((x * y / 18446744073709551616 : Nat) : Int), .int .u64 ((x * y % 18446744073709551616 : Nat) : Int)]) ∧ w' = w := by
  have e0 := and32 x hx
  have e1 := and32 y hy
  go_enter Tryd.func72, Tryd.ntmps72
  go_wp2
  go_ret2
  refine ⟨?_, rfl⟩
  have hms := mulsplit x y
  have h1 := mulle (x % 4294967296) (y % 4294967296) (by omega) (by omega)
  have h2 := mulle (x / 4294967296) (y % 4294967296) (by omega) (by omega)
  have h3 := mulle (x % 4294967296) (y / 4294967296) (by omega) (by omega)
  have h4 := mulle (x / 4294967296) (y / 4294967296) (by omega) (by omega)
  have hh := hi64 _ _ _ _ h1 h2 h3 h4
  rw [← hms] at hh
  rw [← hh]
  have hl : IntKind.u64.wrap ((x : Int) * (y : Int)) = ((x * y % 18446744073709551616 : Nat) : Int) := by rw [wrapm]; simp
  rw [← hl]
  simp
theorem add64 (x y c : Int) (hx : 0 ≤ x) (hy : 0 ≤ y) (hc0 : 0 ≤ c) (hc : c ≤ 1) (w : World) : (callFunc 73 #[.int .u64 x, .int .u64 y, .int .u64 c]).run Tryd.prog w =
    .ok (.value (.tuple #[.int .u64 ((x + y + c) % 18446744073709551616), .int .u64 ((x + y + c) / 18446744073709551616)])) w := by
  rw [run_callFunc_extern Tryd.func73 (by kernel_rfl) (by kernel_rfl) (by kernel_rfl) (e := add64Entry) (by kernel_rfl), run_add64 x y c hx hy hc0 hc]
  rfl
theorem add64_0 (x y : Int) (hx : 0 ≤ x) (hy : 0 ≤ y) (w : World) : (callFunc 73 #[.int .u64 x, .int .u64 y, .int .u64 0]).run Tryd.prog w =
    .ok (.value (.tuple #[.int .u64 ((x + y) % 18446744073709551616), .int .u64 ((x + y) / 18446744073709551616)])) w := by
  simpa using add64 x y 0 hx hy (Int.le_refl 0) (by decide) w
def wdc (W : Nat) : Array Value := #[.int .u64 ((W / 18446744073709551616 : Nat) : Int), .int .u64 ((W % 18446744073709551616 : Nat) : Int)]
theorem plus41 (W x y : Nat) (w : World) (hx : x < 18446744073709551616) (hy : y < 18446744073709551616) (hW : W + x * y < 340282366920938463463374607431768211456) :
    Calls Tryd.prog 62 #[.agg (wdc W), .int .u64 x, .int .u64 y] w fun e w' => e = .returned (.agg (wdc (W + x * y))) ∧ Below w.heap.size w w' := by
  obtain ⟨wh, hwh⟩ : ∃ z, z = W / 18446744073709551616 := ⟨_, rfl⟩
  obtain ⟨wl, hwl⟩ : ∃ z, z = W % 18446744073709551616 := ⟨_, rfl⟩
  obtain ⟨z, hz⟩ : ∃ z, z = x * y := ⟨_, rfl⟩
  have hm := fun w1 => mul45 x y w1 hx hy
  rw [← hz] at hW hm ⊢
  obtain ⟨zh, hzh⟩ : ∃ t, t = z / 18446744073709551616 := ⟨_, rfl⟩
  obtain ⟨zl, hzl⟩ : ∃ t, t = z % 18446744073709551616 := ⟨_, rfl⟩
  rw [← hzh, ← hzl] at hm
  unfold wdc
  rw [← hwh, ← hwl]
  have HE1 : Hid ((W + z) / 18446744073709551616 = (zh + wh + (zl + wl) / 18446744073709551616) % 18446744073709551616) := by show _ = _; omega
  have HE2 : Hid ((W + z) % 18446744073709551616 = (zl + wl) % 18446744073709551616) := by show _ = _; omega
  have k0 : 0 ≤ ((zl : Int) + wl) / 18446744073709551616 := by omega
  have k1 : ((zl : Int) + wl) / 18446744073709551616 ≤ 1 := by omega
  clear hwh hwl hz hzh hzl hx hy hW
  go_enter Tryd.func62, Tryd.ntmps62
  go_wp2_with fail
  refine (hm _).mono ?_
  rintro e w' ⟨rfl, rfl⟩
  go_wp2_with (first | simp only [add64_0 (zl : Int) (wl : Int) (by omega) (by omega)] | simp only [add64 (zh : Int) (wh : Int) _ (by omega) (by omega) k0 k1])
  refine bodyPost_ret (v := .agg #[.int .u64 (((W + z) / 18446744073709551616 : Nat) : Int), .int .u64 (((W + z) % 18446744073709551616 : Nat) : Int)]) ?_ rfl ⟨rfl, below2 _ _ _⟩
  rw [HE1.out, HE2.out]
  simp [results, Tryd.results62, go_sem]
theorem rest42 (W : Nat) (w : World) : Calls Tryd.prog 64 #[.agg (wdc W)] w fun e w' => e = .returned (.int .u64 ((W % 2251799813685248 : Nat) : Int)) ∧ Below w.heap.size w w' := by
  obtain ⟨wl, hwl⟩ : ∃ z, z = W % 18446744073709551616 := ⟨_, rfl⟩
  have e0 := and51 wl (by omega)
  rw [show W % 2251799813685248 = wl % 2251799813685248 by omega]
  unfold wdc
  rw [← hwl]
  clear hwl
  go_enter Tryd.func64, Tryd.ntmps64
  go_wp2
  go_ret
  exact ⟨by simp, below1 _ _⟩
theorem or_add64 (a b k : Nat) (ha : a % 2 ^ k = 0) (hb : b < 2 ^ k) (hab : a + b < 18446744073709551616) : bits .or .u64 (a : Int) (b : Int) = ((a + b : Nat) : Int) := by
  rw [bits_or_u64_nat a b (by omega) (by omega)]
  congr 1
  have h1 : a = 2 ^ k * (a / 2 ^ k) := by have := Nat.div_add_mod a (2 ^ k); omega
  rw [h1, Nat.two_pow_add_eq_or_of_lt hb]
theorem carry43 (W : Nat) (w : World) (hW : W < 41538374868278621028243970633760768) : Calls Tryd.prog 65 #[.agg (wdc W)] w fun e w' => e = .returned (.int .u64 ((W / 2251799813685248 : Nat) : Int)) ∧ Below w.heap.size w w' := by
  obtain ⟨wl, hwl⟩ : ∃ z, z = W % 18446744073709551616 := ⟨_, rfl⟩
  obtain ⟨wh, hwh⟩ : ∃ z, z = W / 18446744073709551616 := ⟨_, rfl⟩
  have HO := or_add64 (wh * 8192) (wl / 2251799813685248) 13 (by omega) (by omega) (by omega)
  have HE : Hid (W / 2251799813685248 = wh * 8192 + wl / 2251799813685248) := by show _ = _; omega
  unfold wdc
  rw [← hwl, ← hwh]
  have hs : wh < 2251799813685248 := by omega
  have hl : wl < 18446744073709551616 := by omega
  clear hwl hwh hW
  go_enter Tryd.func65, Tryd.ntmps65
  go_wp2
  go_ret
  refine ⟨?_, below1 _ _⟩
  rw [HE.out, ← HO]
  simp
end Go.Proofs.YtpfcboakafbnlaaDoor
