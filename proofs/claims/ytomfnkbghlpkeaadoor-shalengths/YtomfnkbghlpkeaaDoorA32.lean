/-
  The walks of turn, turns, turnsShift and spread, at words of 32 bits.
-/
import Derived.Test.YtomfnkbghlpkeaaDoorProg
import Derived.Test.YtomfnkbghlpkeaaDoorCells
import Derived.WalkKit
import Derived.BigQuiet
import Derived.WalkSmall
import Derived.Lib.QuietBelow
namespace Go.Proofs.YtomfnkbghlpkeaaDoor
open Go.RowKit Go.Sort
theorem rot32_eq (x b : Nat) (hx : x < 4294967296) : bits BinOp.or IntKind.u32 (↑x / 2 ^ b) (↑x * 2 ^ (32 - b) % 4294967296) = ((rot 32 x b : Nat) : Int) := by
  have h1 : ((x : Int) / 2 ^ b) = ((x >>> b : Nat) : Int) := by rw [Nat.shiftRight_eq_div_pow]; simp
  have h2 : ((x : Int) * 2 ^ (32 - b) % 4294967296) = (((x <<< (32 - b)) % 2 ^ 32 : Nat) : Int) := by rw [Nat.shiftLeft_eq]; simp
  rw [h1, h2, u32_or_nat _ _ (shr_lt hx) (by omega)]
  rfl
theorem turn32 (x b : Nat) (w : World) (hx : x < 4294967296) (hb : 0 < b) (hb2 : b < 32) :
    Calls Tryd.prog 44 #[.int .u32 x, .int .u64 b, .int .u64 32] w fun e w' => e = .returned (.int .u32 (rot 32 x b : Nat)) ∧ w' = w := by
  go_enter Tryd.func44, Tryd.ntmps44
  go_wp2
  go_ret
  exact ⟨ret_int (rot32_eq x b hx), rfl⟩
theorem xor3_32 (a b c : Nat) (ha : a < 4294967296) (hb : b < 4294967296) (hc : c < 4294967296) :
    bits BinOp.xor IntKind.u32 (bits BinOp.xor IntKind.u32 (a : Int) (b : Int)) (c : Int) = ((a ^^^ b ^^^ c : Nat) : Int) := by
  rw [u32_xor_nat _ _ ha hb, u32_xor_nat _ _ (Nat.xor_lt_two_pow (n := 32) ha hb) hc]
theorem turns32 (x a b c : Nat) (w : World) (hx : x < 4294967296) (ha : 0 < a) (ha2 : a < 32) (hb : 0 < b) (hb2 : b < 32) (hc : 0 < c) (hc2 : c < 32) :
    Calls Tryd.prog 39 #[.int .u32 x, .agg #[.int .u64 a, .int .u64 b, .int .u64 c], .int .u64 32] w fun e w' => e = .returned (.int .u32 (tn 32 x a b c : Nat)) ∧ Below w.heap.size w w' := by
  go_enter Tryd.func39, Tryd.ntmps39
  go_wp2
  go_quiet ((go_at_call 44; exact Calls.quiet_of_same (turn32 _ _ _ (by assumption) (by assumption) (by assumption))))
  go_wp2
  go_ret
  exact ⟨ret_int (xor3_32 _ _ _ (rot_lt (W := 32) hx) (rot_lt (W := 32) hx) (rot_lt (W := 32) hx)), below_drewN ((Below.refl _ _).alloc (Nat.le_refl _) _) _⟩
theorem turnsShift32 (x a b c : Nat) (w : World) (hx : x < 4294967296) (ha : 0 < a) (ha2 : a < 32) (hb : 0 < b) (hb2 : b < 32) (hc : 0 < c) (hc2 : c < 32) :
    Calls Tryd.prog 43 #[.int .u32 x, .agg #[.int .u64 a, .int .u64 b, .int .u64 c], .int .u64 32] w fun e w' => e = .returned (.int .u32 (ts 32 x a b c : Nat)) ∧ Below w.heap.size w w' := by
  go_enter Tryd.func43, Tryd.ntmps43
  go_wp2
  go_quiet ((go_at_call 44; exact Calls.quiet_of_same (turn32 _ _ _ (by assumption) (by assumption) (by assumption))))
  go_wp2
  go_ret
  refine ⟨ret_int ?_, below_drewN ((Below.refl _ _).alloc (Nat.le_refl _) _) _⟩
  have h1 : ((x : Int) / 2 ^ c) = ((x >>> c : Nat) : Int) := by rw [Nat.shiftRight_eq_div_pow]; simp
  rw [h1]
  exact xor3_32 _ _ _ (rot_lt (W := 32) hx) (rot_lt (W := 32) hx) (shr_lt hx)
end Go.Proofs.YtomfnkbghlpkeaaDoor
