/-
  The walks of turn, turns, turnsShift and spread, at words of 64 bits.
-/
import Derived.Test.YtomfnkbghlpkeaaDoorG32
import Derived.Test.YtomfnkbghlpkeaaDoorProg
import Derived.Test.YtomfnkbghlpkeaaDoorCells
import Derived.WalkKit
import Derived.BigQuiet
import Derived.WalkSmall
import Derived.Lib.QuietBelow
namespace Go.Proofs.YtomfnkbghlpkeaaDoor
open Go.RowKit Go.Sort
theorem rot64_eq (x b : Nat) (hx : x < 18446744073709551616) : bits BinOp.or IntKind.u64 (↑x / 2 ^ b) (↑x * 2 ^ (64 - b) % 18446744073709551616) = ((rot 64 x b : Nat) : Int) := by
  have h1 : ((x : Int) / 2 ^ b) = ((x >>> b : Nat) : Int) := by rw [Nat.shiftRight_eq_div_pow]; simp
  have h2 : ((x : Int) * 2 ^ (64 - b) % 18446744073709551616) = (((x <<< (64 - b)) % 2 ^ 64 : Nat) : Int) := by rw [Nat.shiftLeft_eq]; simp
  rw [h1, h2, u64_or_nat _ _ (shr_lt hx) (by omega)]
  rfl
theorem turn64 (x b : Nat) (w : World) (hx : x < 18446744073709551616) (hb : 0 < b) (hb2 : b < 64) :
    Calls Tryd.prog 46 #[.int .u64 x, .int .u64 b, .int .u64 64] w fun e w' => e = .returned (.int .u64 (rot 64 x b : Nat)) ∧ w' = w := by
  go_enter Tryd.func46, Tryd.ntmps46
  go_wp2
  go_ret
  exact ⟨ret_int (rot64_eq x b hx), rfl⟩
theorem xor3_64 (a b c : Nat) (ha : a < 18446744073709551616) (hb : b < 18446744073709551616) (hc : c < 18446744073709551616) :
    bits BinOp.xor IntKind.u64 (bits BinOp.xor IntKind.u64 (a : Int) (b : Int)) (c : Int) = ((a ^^^ b ^^^ c : Nat) : Int) := by
  rw [u64_xor_nat _ _ ha hb, u64_xor_nat _ _ (Nat.xor_lt_two_pow (n := 64) ha hb) hc]
theorem turns64 (x a b c : Nat) (w : World) (hx : x < 18446744073709551616) (ha : 0 < a) (ha2 : a < 64) (hb : 0 < b) (hb2 : b < 64) (hc : 0 < c) (hc2 : c < 64) :
    Calls Tryd.prog 42 #[.int .u64 x, .agg #[.int .u64 a, .int .u64 b, .int .u64 c], .int .u64 64] w fun e w' => e = .returned (.int .u64 (tn 64 x a b c : Nat)) ∧ Below w.heap.size w w' := by
  go_enter Tryd.func42, Tryd.ntmps42
  go_wp2
  go_quiet ((go_at_call 46; exact Calls.quiet_of_same (turn64 _ _ _ (by assumption) (by assumption) (by assumption))))
  go_wp2
  go_ret
  exact ⟨ret_int (xor3_64 _ _ _ (rot_lt (W := 64) hx) (rot_lt (W := 64) hx) (rot_lt (W := 64) hx)), below_drewN ((Below.refl _ _).alloc (Nat.le_refl _) _) _⟩
theorem turnsShift64 (x a b c : Nat) (w : World) (hx : x < 18446744073709551616) (ha : 0 < a) (ha2 : a < 64) (hb : 0 < b) (hb2 : b < 64) (hc : 0 < c) (hc2 : c < 64) :
    Calls Tryd.prog 45 #[.int .u64 x, .agg #[.int .u64 a, .int .u64 b, .int .u64 c], .int .u64 64] w fun e w' => e = .returned (.int .u64 (ts 64 x a b c : Nat)) ∧ Below w.heap.size w w' := by
  go_enter Tryd.func45, Tryd.ntmps45
  go_wp2
  go_quiet ((go_at_call 46; exact Calls.quiet_of_same (turn64 _ _ _ (by assumption) (by assumption) (by assumption))))
  go_wp2
  go_ret
  refine ⟨ret_int ?_, below_drewN ((Below.refl _ _).alloc (Nat.le_refl _) _) _⟩
  have h1 : ((x : Int) / 2 ^ c) = ((x >>> c : Nat) : Int) := by rw [Nat.shiftRight_eq_div_pow]; simp
  rw [h1]
  exact xor3_64 _ _ _ (rot_lt (W := 64) hx) (rot_lt (W := 64) hx) (shr_lt hx)
end Go.Proofs.YtomfnkbghlpkeaaDoor
