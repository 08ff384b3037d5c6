/-
  Numbers for Bytes and ofBytes: bytes are bits of limbs of 51 bits.
-/
import Derived.Test.YtpfcboakafbnlaaDoorA
set_option linter.unusedVariables false
namespace Go.Proofs.YtpfcboakafbnlaaDoor
theorem splitE_get (V i : Nat) (h : i < 5) : (splitE V).list.getD i 0 = V / 2 ^ (51 * i) % 2 ^ 51 := by
  have hk5 : i = 0 ∨ i = 1 ∨ i = 2 ∨ i = 3 ∨ i = 4 := by omega
  rcases hk5 with rfl | rfl | rfl | rfl | rfl <;> simp [splitE, E5.list]
theorem byte2 (U sh : Nat) (h : sh < 51) : (U % 2 ^ 51 / 2 ^ sh + (U / 2 ^ 51 % 2 ^ 51) * 2 ^ (51 - sh)) % 256 = U / 2 ^ sh % 256 := by
  have e : 2 ^ sh * 2 ^ (51 - sh) = 2 ^ 51 := by rw [← Nat.pow_add]; congr 1; omega
  have hp : 0 < 2 ^ sh := Nat.pow_pos (by decide)
  obtain ⟨q, hq⟩ : ∃ q, q = 2 ^ (51 - sh) := ⟨_, rfl⟩
  obtain ⟨r, hr⟩ : ∃ r, r = 2 ^ sh := ⟨_, rfl⟩
  rw [← hq, ← hr] at e
  rw [← hr] at hp
  rw [← hq, ← hr]
  have h1 : U / r = U % 2 ^ 51 / r + q * (U / 2 ^ 51) := by
    have h2 : U = U % 2 ^ 51 + r * (q * (U / 2 ^ 51)) := by
      rw [← Nat.mul_assoc, e]; exact (Nat.mod_add_div U (2 ^ 51)).symm
    rw [← Nat.add_mul_div_left _ _ hp, ← h2]
  obtain ⟨t, ht⟩ : ∃ t, t = U / 2 ^ 51 := ⟨_, rfl⟩
  rw [h1, ← ht]
  have h3 : q * t = t % 2 ^ 51 * q + 256 * (2 ^ 43 * q * (t / 2 ^ 51)) := by
    have h4 : ∀ m d : Nat, q * (m + 2 ^ 51 * d) = m * q + 256 * (2 ^ 43 * q * d) := by intro m d; grind
    have h5 := h4 (t % 2 ^ 51) (t / 2 ^ 51)
    rwa [Nat.mod_add_div t (2 ^ 51)] at h5
  rw [h3, ← Nat.add_assoc, Nat.add_mul_mod_self_left]
theorem or_add (X Y k : Nat) (hX : X < 2 ^ k) (hY : Y % 2 ^ k = 0) : X ||| Y = X + Y := by
  have h1 : Y = 2 ^ k * (Y / 2 ^ k) := by have := Nat.div_add_mod Y (2 ^ k); omega
  rw [Nat.or_comm, h1, ← Nat.two_pow_add_eq_or_of_lt hX, Nat.add_comm]
theorem pow256 (k : Nat) : 256 ^ k = 2 ^ (8 * k) := by rw [Nat.pow_mul]
/-- One byte, out of two limbs. -/
theorem byte_two (V k a sh x y : Nat) (hE : 8 * k = 51 * a + sh) (hs : sh < 51) (hx : x = V / 2 ^ (51 * a) % 2 ^ 51) (hy : y = V / 2 ^ (51 * (a + 1)) % 2 ^ 51) :
    bits BinOp.or IntKind.u64 (↑x / 2 ^ sh) (IntKind.u64.wrap (↑y * 2 ^ (51 - sh))) % 256 = ((V / 256 ^ k % 256 : Nat) : Int) := by
  have h1 : ((x : Int) / 2 ^ sh) = ((x / 2 ^ sh : Nat) : Int) := by simp
  have h2 : IntKind.u64.wrap ((y : Int) * 2 ^ (51 - sh)) = ((y * 2 ^ (51 - sh) % 2 ^ 64 : Nat) : Int) := by rw [wrapm]; simp
  have hxl : x < 2 ^ 51 := by rw [hx]; exact Nat.mod_lt _ (by decide)
  have hX : x / 2 ^ sh < 2 ^ (51 - sh) := by
    rw [Nat.div_lt_iff_lt_mul (Nat.pow_pos (by decide)), ← Nat.pow_add, show 51 - sh + sh = 51 by omega]; exact hxl
  have hxx : x / 2 ^ sh < 18446744073709551616 := Nat.lt_of_le_of_lt (Nat.div_le_self _ _) (by omega)
  have hY : y * 2 ^ (51 - sh) % 2 ^ 64 % 2 ^ (51 - sh) = 0 := by
    rw [Nat.mod_mod_of_dvd _ (Nat.pow_dvd_pow 2 (by omega)), Nat.mul_mod_left]
  have hYl : y * 2 ^ (51 - sh) % 2 ^ 64 < 2 ^ 64 := Nat.mod_lt _ (by decide)
  rw [h1, h2, bits_or_u64_nat _ _ hxx (by omega), or_add _ _ _ hX hY]
  have h3 : (x / 2 ^ sh + y * 2 ^ (51 - sh) % 2 ^ 64) % 256 = (x / 2 ^ sh + y * 2 ^ (51 - sh)) % 256 := by omega
  have h4 : V / 256 ^ k % 256 = V / 2 ^ (51 * a) / 2 ^ sh % 256 := by rw [pow256, hE, Nat.pow_add, ← Nat.div_div_eq_div_mul]
  have h5 : y = V / 2 ^ (51 * a) / 2 ^ 51 % 2 ^ 51 := by rw [hy, Nat.div_div_eq_div_mul, ← Nat.pow_add, Nat.mul_add]
  rw [h4, ← byte2 _ sh hs, ← h5, ← hx, ← h3]
  simp
theorem byte_one (V k sh x : Nat) (hV : V < 2 ^ 255) (hE : 8 * k = 51 * 4 + sh) (hx : x = V / 2 ^ (51 * 4) % 2 ^ 51) : (x : Int) / 2 ^ sh % 256 = ((V / 256 ^ k % 256 : Nat) : Int) := by
  have h1 : x = V / 2 ^ (51 * 4) := by rw [hx, Nat.mod_eq_of_lt]; omega
  rw [pow256, hE, Nat.pow_add, ← Nat.div_div_eq_div_mul, ← h1]
  simp
end Go.Proofs.YtpfcboakafbnlaaDoor
