/-
  The walks of takeByte, Sum (the program's and the reference's), few, bytes.Equal.
-/
import Derived.Test.YtjnoohhjnnafcaaProg
import Derived.Test.YtjnoohhjnnafcaaCells
import Derived.WalkKit
import Derived.BigQuiet
import Derived.WalkSmall
import Derived.Laws.BytesString
set_option linter.unusedVariables false
namespace Go.Proofs.Ytjnoohhjnnafcaa
open Go.RowKit Go.Sort Go.BigFrame
set_option maxRecDepth 100000
set_option maxHeartbeats 2000000
theorem i64_xor_nat (a b : Nat) (ha : a < 4294967296) (hb : b < 4294967296) : bits .xor .i64 (a : Int) (b : Int) = ((a ^^^ b : Nat) : Int) := by
  have hx : a ^^^ b < 2 ^ 32 := Nat.xor_lt_two_pow (by omega) (by omega)
  show IntKind.i64.wrap ((BitVec.ofInt 64 (a : Int) ^^^ BitVec.ofInt 64 (b : Int)).toNat : Int) = _
  rw [BitVec.toNat_xor, ofInt_u64 a (by omega), ofInt_u64 b (by omega)]
  simp [IntKind.wrap, IntKind.bits, IntKind.signed]; omega
theorem ones_xor32 (x : Nat) (hx : x < 4294967296) : wrap64 (bits BinOp.xor IntKind.u32 IntKind.u32.max ↑x) = ((4294967295 - x : Nat) : Int) := by
  have h1 : IntKind.u32.max = ((4294967295 : Nat) : Int) := by decide
  rw [h1, u32_xor_nat _ _ (by decide) hx]
  have h2 : 4294967295 ^^^ x = 4294967295 - x := by
    apply Nat.eq_of_testBit_eq
    intro i
    rw [show 4294967295 = 2 ^ 32 - 1 from rfl, Nat.testBit_xor, Nat.testBit_two_pow_sub_one, show 2 ^ 32 - 1 - x = 2 ^ 32 - (x + 1) by omega, Nat.testBit_two_pow_sub_succ (show x < 2 ^ 32 from hx)]
    by_cases hi : i < 32
    · simp [hi]
    · simp [hi]
      exact Nat.testBit_lt_two_pow (Nat.lt_of_lt_of_le (show x < 2 ^ 32 from hx) (Nat.pow_le_pow_right (by decide) (by omega)))
  rw [h2]
  unfold wrap64; omega
theorem bit1_eq (x : Nat) (hx : x < 4294967296) : bits BinOp.xor IntKind.u32 (↑x / 2) (3988292384 * bits BinOp.and IntKind.u32 (↑x) 1 % 4294967296) = ((bit1 x : Nat) : Int) := by
  have h1 : bits BinOp.and IntKind.u32 (↑x) 1 = ((x % 2 : Nat) : Int) := by
    rw [← Nat.and_one_is_mod]; exact u32_and_nat x 1 hx (by decide)
  have h2 : x % 2 = 0 ∨ x % 2 = 1 := by omega
  have h3 : (3988292384 * ((x % 2 : Nat) : Int) % 4294967296) = ((3988292384 * (x % 2) : Nat) : Int) := by rcases h2 with h | h <;> rw [h] <;> rfl
  have h4 : ((x : Int) / 2) = ((x / 2 : Nat) : Int) := by omega
  have h5 : 3988292384 * (x % 2) < 4294967296 := by rcases h2 with h | h <;> rw [h] <;> decide
  rw [h1, h3, h4, u32_xor_nat _ _ (by omega) h5]
  rfl
theorem takeByte16 (s b : Nat) (w : World) (hs : s < 4294967296) (hb : b < 256) :
    Calls Try.prog 16 #[.int .u32 s, .int .u8 b] w fun e w' => e = .returned (.int .u32 (stepB s b : Nat)) ∧ w' = w := by
  go_enter Try.func16, Try.ntmps16
  go_wp2
  go_loop [9, 0] (fun i v => ∃ k : Nat, k ≤ 8 ∧ i = .int .i64 k ∧ v = .int .u32 (bitN (s ^^^ b) k : Nat)) (fun i _ => 8 - (intOf i).toNat)
  case atStart =>
    refine ⟨0, by omega, rfl, ?_⟩
    have := u32_xor_nat s b hs (by omega)
    rw [this]; rfl
  case round =>
    obtain ⟨k, hk, rfl, rfl⟩ := hrel
    by_cases hlt : k < 8
    · obtain ⟨x, hx⟩ : ∃ x, x = bitN (s ^^^ b) k := ⟨_, rfl⟩
      have hxl : x < 4294967296 := by rw [hx]; exact bitN_lt (xor_lt32 hs hb) k
      rw [← hx]
      have HX : Hid (x = bitN (s ^^^ b) k) := hx
      clear hx
      go_wp2
      go_round
      case rel =>
        refine ⟨k + 1, by omega, by go_num, ?_⟩
        rw [bit1_eq x hxl, HX.out]; rfl
      case measure => simp [intOf]; omega
    · obtain rfl : k = 8 := by omega
      go_wp2
      go_ret
      exact ⟨rfl, rfl⟩
theorem sum9 (a : Option Addr) (len cap : Nat) (bs : List Nat) (w : World) (hlen0 : bs.length = len) (hcap : len ≤ cap) (hcap2 : cap ≤ 9223372036854775807) (hb : ∀ j, bs.getD j 0 < 256) (hv : View w a bs) :
    Calls Try.prog 9 #[.slice a len cap] w fun e w' => e = .returned (.int .i64 (crcOf bs : Nat)) ∧ w' = w := by
  have hlen : Hid (bs.length = len) := hlen0
  clear hlen0
  go_enter Try.func9, Try.ntmps9
  go_wp2
  go_loop [7, 3] (fun i v => ∃ k : Nat, k ≤ len ∧ i = .int .i64 k ∧ v = .int .u32 (upd 4294967295 (bs.take k) : Nat)) (fun i _ => len - (intOf i).toNat)
  case atStart => exact ⟨0, by omega, rfl, rfl⟩
  case round =>
    obtain ⟨k, hk, rfl, rfl⟩ := hrel
    by_cases hlt : k < len
    · obtain ⟨x, hx⟩ : ∃ x, x = upd 4294967295 (bs.take k) := ⟨_, rfl⟩
      have hxl : x < 4294967296 := by rw [hx]; exact upd_lt (by decide) (take_lt k hb)
      rw [← hx]
      have HX : Hid (x = upd 4294967295 (bs.take k)) := hx
      clear hx
      obtain ⟨g, off, rfl, hc⟩ := hv (by have := hlen.out; omega)
      have hck := hc k (by have := hlen.out; omega)
      have hbk := hb k
      go_wp2_with fail
      refine (takeByte16 x (bs.getD k 0) w hxl hbk).mono ?_
      rintro e w' ⟨rfl, rfl⟩
      go_wp2
      go_round
      case rel =>
        refine ⟨k + 1, by omega, by go_num, ?_⟩
        rw [take_succ' _ _ (by have := hlen.out; omega), upd_snoc, HX.out]; simp
      case measure => simp [intOf]; omega
    · obtain rfl : k = len := by omega
      rw [List.take_of_length_le (by have := hlen.out; omega)]
      have hxl : upd 4294967295 bs < 4294967296 := upd_lt (by decide) hb
      obtain ⟨x, hx⟩ : ∃ x, x = upd 4294967295 bs := ⟨_, rfl⟩
      rw [← hx] at hxl ⊢
      have HC : Hid (crcOf bs = 4294967295 - x) := by show crcOf bs = _; rw [hx]; rfl
      clear hx
      go_wp2
      go_ret
      refine ⟨ret_int ?_, rfl⟩
      rw [ones_xor32 x hxl, HC.out]
theorem refSum10 (a : Option Addr) (len cap : Nat) (bs : List Nat) (w : World) (hlen0 : bs.length = len) (hcap : len ≤ cap) (hcap2 : cap ≤ 9223372036854775807) (hb : ∀ j, bs.getD j 0 < 256) (hv : View w a bs) :
    Calls Try.prog 10 #[.slice a len cap] w fun e w' => e = .returned (.int .i64 (crcOf bs : Nat)) ∧ w' = w := by
  have hlen : Hid (bs.length = len) := hlen0
  clear hlen0
  go_enter Try.func10, Try.ntmps10
  go_wp2
  go_loop [4, 3] (fun i v => ∃ k : Nat, k ≤ len ∧ i = .int .i64 k ∧ v = .int .i64 (upd 4294967295 (bs.take k) : Nat)) (fun i _ => len - (intOf i).toNat)
  case atStart => exact ⟨0, by omega, rfl, rfl⟩
  case round =>
    obtain ⟨k, hk, rfl, rfl⟩ := hrel
    by_cases hlt : k < len
    · obtain ⟨x, hx⟩ : ∃ x, x = upd 4294967295 (bs.take k) := ⟨_, rfl⟩
      have hxl : x < 4294967296 := by rw [hx]; exact upd_lt (by decide) (take_lt k hb)
      rw [← hx]
      have HX : Hid (x = upd 4294967295 (bs.take k)) := hx
      clear hx
      obtain ⟨g, off, rfl, hc⟩ := hv (by have := hlen.out; omega)
      have hck := hc k (by have := hlen.out; omega)
      have hbk := hb k
      obtain ⟨y, hy⟩ : ∃ y, y = bs.getD k 0 := ⟨_, rfl⟩
      rw [← hy] at hck hbk
      have HY : Hid (y = bs.getD k 0) := hy
      clear hy
      go_wp2
      go_loop [5, 3] (fun i v => ∃ j : Nat, j ≤ 8 ∧ i = .int .i64 j ∧ v = .int .i64 (bitN (x ^^^ y) j : Nat)) (fun i _ => 8 - (intOf i).toNat)
      case atStart =>
        refine ⟨0, by omega, rfl, ?_⟩
        rw [i64_xor_nat x y hxl (by omega)]; rfl
      case round =>
        obtain ⟨j, hj, rfl, rfl⟩ := hrel
        by_cases hlt2 : j < 8
        · obtain ⟨z, hz⟩ : ∃ z, z = bitN (x ^^^ y) j := ⟨_, rfl⟩
          have hzl : z < 4294967296 := by rw [hz]; exact bitN_lt (xor_lt32 hxl hbk) j
          rw [← hz]
          have HZ : Hid (z = bitN (x ^^^ y) j) := hz
          clear hz
          by_cases hodd : z % 2 = 1
          · have HO : Hid (z % 2 = 1) := hodd
            have ho2 : ((z : Int) % 2 == 1) = true := by simp; omega
            clear hodd
            go_wp2
            go_round
            case rel =>
              refine ⟨j + 1, by omega, by go_num, ?_⟩
              rw [show ((z : Int) / 2) = ((z / 2 : Nat) : Int) by omega, show (3988292384 : Int) = ((3988292384 : Nat) : Int) from rfl, i64_xor_nat _ _ (by omega) (by decide)]
              rw [bitN, ← HZ.out, bit1, HO.out]
            case measure => simp [intOf]; omega
          · have HO : Hid (z % 2 = 0) := by show z % 2 = 0; omega
            have ho2 : ((z : Int) % 2 == 1) = false := by simp; omega
            clear hodd
            go_wp2
            go_round
            case rel =>
              refine ⟨j + 1, by omega, by go_num, ?_⟩
              rw [bitN, ← HZ.out, bit1, HO.out]; simp
            case measure => simp [intOf]; omega
        · obtain rfl : j = 8 := by omega
          go_wp2
          go_round
          case rel =>
            refine ⟨k + 1, by omega, by go_num, ?_⟩
            rw [take_succ' _ _ (by have := hlen.out; omega), upd_snoc, ← HX.out, ← HY.out]; rfl
          case measure => simp [intOf]; omega
    · obtain rfl : k = len := by omega
      rw [List.take_of_length_le (by have := hlen.out; omega)]
      have hxl : upd 4294967295 bs < 4294967296 := upd_lt (by decide) hb
      obtain ⟨x, hx⟩ : ∃ x, x = upd 4294967295 bs := ⟨_, rfl⟩
      rw [← hx] at hxl ⊢
      have HC : Hid (crcOf bs = 4294967295 - x) := by show crcOf bs = _; rw [hx]; rfl
      clear hx
      go_wp2
      go_ret
      refine ⟨ret_int ?_, rfl⟩
      rw [HC.out]; omega
end Go.Proofs.Ytjnoohhjnnafcaa
