/-
  The walk of bytes.
-/
import Derived.Test.YtoehjkebfpoigaaDoorWC
set_option linter.unusedVariables false
namespace Go.Proofs.YtoehjkebfpoigaaDoor
open Go.RowKit Go.Sort Go.BigFrame
set_option maxRecDepth 100000
set_option maxHeartbeats 2000000
theorem i64_or_nat (a b : Nat) (ha : a < 4611686018427387904) (hb : b < 4611686018427387904) : bits .or .i64 (a : Int) (b : Int) = ((a ||| b : Nat) : Int) := by
  have hx : a ||| b < 2 ^ 62 := Nat.or_lt_two_pow (by omega) (by omega)
  have e : ∀ n : Nat, n < 4611686018427387904 → (BitVec.ofInt 64 (n : Int)).toNat = n := fun n hn => by rw [BitVec.toNat_ofInt]; omega
  show IntKind.i64.wrap ((BitVec.ofInt 64 (a : Int) ||| BitVec.ofInt 64 (b : Int)).toNat : Int) = _
  rw [BitVec.toNat_or, e a ha, e b hb, IntKind.wrap_i64]
  omega
theorem or_add (X Y k : Nat) (hX : X < 2 ^ k) (hY : Y % 2 ^ k = 0) : X ||| Y = X + Y := by
  have h1 : Y = 2 ^ k * (Y / 2 ^ k) := by have := Nat.div_add_mod Y (2 ^ k); omega
  rw [Nat.or_comm, h1, ← Nat.two_pow_add_eq_or_of_lt hX, Nat.add_comm]
/-- A row of a natural number. -/
theorem rowN_lt {top j : Nat} (R : Nat) (h : j < top) : (row top (R : Int)).getD j 0 = ((R / 268435456 ^ j % 268435456 : Nat) : Int) := by
  rw [row_get_lt _ h]; simp
theorem rowN_top (top R : Nat) : (row top (R : Int)).getD top 0 = ((R / 268435456 ^ top : Nat) : Int) := by
  rw [row_get_top]; simp
/-- One byte of a number, out of two digits. -/
theorem byte_w (P s x y : Nat) (hs : s = 0 ∨ s = 4 ∨ s = 8 ∨ s = 12 ∨ s = 16 ∨ s = 20 ∨ s = 24) (hxy : (x < 268435456 ∧ x = P % 268435456 ∧ y % 268435456 = P / 268435456 % 268435456 ∧ y ≤ 268435456) ∨ (x = P ∧ y = 0 ∧ x ≤ 268435456)) :
    bits .or .i64 ((x : Int) / 2 ^ s) ((y : Int) * 2 ^ (28 - s)) % 256 = ((P / 2 ^ s % 256 : Nat) : Int) := by
  have w8 : ∀ n : Nat, (n : Int) % 256 = ((n % 256 : Nat) : Int) := fun n => by simp
  have e1 : ((x : Int) / 2 ^ s) = ((x / 2 ^ s : Nat) : Int) := by simp
  have e2 : ((y : Int) * 2 ^ (28 - s)) = ((y * 2 ^ (28 - s) : Nat) : Int) := by simp
  rw [e1, e2]
  have hx : x / 2 ^ s ≤ x := Nat.div_le_self _ _
  have hp : 2 ^ (28 - s) ≤ 2 ^ 28 := Nat.pow_le_pow_right (by decide) (by omega)
  have hy : y * 2 ^ (28 - s) ≤ 268435456 * 2 ^ 28 := Nat.mul_le_mul (by omega) hp
  rw [i64_or_nat _ _ (by omega) (by omega)]
  rcases hxy with ⟨h1, h2, h3, h4⟩ | ⟨h1, h2, h4⟩
  · rw [or_add _ _ (28 - s) ?_ (Nat.mul_mod_left _ _), w8]
    · congr 1
      rcases hs with rfl | rfl | rfl | rfl | rfl | rfl | rfl <;> simp only [Nat.reducePow, Nat.reduceSub] <;> omega
    · rcases hs with rfl | rfl | rfl | rfl | rfl | rfl | rfl <;> simp only [Nat.reducePow, Nat.reduceSub] <;> omega
  · subst h2
    rw [Nat.zero_mul, Nat.or_zero, w8, h1]
def RelB (w wr : World) (g gb : Nat) (l : List Int) (bl : List Nat) : Prop :=
  Below w.heap.size w wr ∧ w.heap.size ≤ gb ∧ g ≠ gb ∧ wr.heap[g]? = some (.cells (zints l) 35 (0, 0)) ∧ wr.heap[gb]? = some (.cells (ints .u8 bl) 5 (0, 0))
theorem RelB.set {w wr : World} {g gb : Nat} {l : List Int} {bl : List Nat} (h : RelB w wr g gb l bl) (k v : Nat) : RelB w (wr.setCell ⟨gb, k, none⟩ (.int .u8 (v : Int))) g gb l (bl.set k v) :=
  ⟨h.1.setCell h.2.1 _, h.2.1, h.2.2.1, (heap_setCell_other _ _ _ _ h.2.2.1).trans h.2.2.2.1, set_ints h.2.2.2.2 _ _⟩
theorem RelB.drew {w wr : World} {g gb : Nat} {l : List Int} {bl : List Nat} (h : RelB w wr g gb l bl) : RelB w wr.drew g gb l bl := ⟨h.1.drew, h.2⟩
theorem pow256 (k : Nat) : 256 ^ k = 2 ^ (8 * k) := by rw [Nat.pow_mul]
theorem bytes22 (g R : Nat) (w : World) (hR : R < LL) (hg : w.heap[g]? = some (.cells (zints (row 8 (R : Int))) 35 (0, 0))) :
    Calls Tryd.prog 22 #[.pointer (some ⟨g, 0, none⟩)] w fun e w' => ∃ gb, e = .returned (.slice (some ⟨gb, 0, none⟩) 32 32) ∧ w.heap.size ≤ gb ∧ Below w.heap.size w w' ∧ w'.heap[gb]? = some (.cells (ints .u8 (digs 32 R)) 5 (0, 0)) := by
  have hmk := make32
  have hgl := lt_of_heap hg
  have hR0 : RelB w (w.alloc (.cells (ints .u8 (digs 32 0)) 5)) g w.heap.size (row 8 (R : Int)) (digs 32 (R % 256 ^ 0)) :=
    ⟨below1 _ _, Nat.le_refl _, by omega, block_below (below1 _ _) hgl hg, by rw [Nat.pow_zero, Nat.mod_one]; exact heap_alloc_new _ _⟩
  have hb8 : R / 268435456 ^ 8 ≤ 268435456 := by
    have : R < 26959946667150639794667015087019630673637144422540572481103610249216 * 268435457 := Nat.lt_trans hR (by decide)
    have e : 268435456 ^ 8 = 26959946667150639794667015087019630673637144422540572481103610249216 := by decide
    rw [e]; omega
  have HR : Hid (R < LL) := hR
  clear hg hgl hR
  go_enter Tryd.func22, Tryd.ntmps22
  go_wp2_with fail
  generalize w.heap.size = gb at hR0 ⊢
  go_loopw [8] (fun i wr => ∃ k : Nat, k ≤ 32 ∧ i = .int .i64 k ∧ RelB w wr g gb (row 8 (R : Int)) (digs 32 (R % 256 ^ k))) (fun i _ => 32 - (intOf i).toNat)
  case atStart => exact ⟨0, by omega, rfl, hR0⟩
  case round =>
    obtain ⟨k, hk, rfl, hR⟩ := hrel
    clear hR0 hmk
    by_cases hlt : k < 32
    · obtain ⟨at', hat⟩ : ∃ t, t = 8 * k / 28 := ⟨_, rfl⟩
      obtain ⟨s, hs⟩ : ∃ t, t = 8 * k % 28 := ⟨_, rfl⟩
      have iat : 8 * (k : Int) / 28 = (at' : Int) := by omega
      have ish : 8 * (k : Int) % 28 = (s : Int) := by omega
      have hat8 : at' ≤ 8 := by omega
      have hs7 : s = 0 ∨ s = 4 ∨ s = 8 ∨ s = 12 ∨ s = 16 ∨ s = 20 ∨ s = 24 := by omega
      have hs28 : s < 28 := by omega
      have c1 := cell_z hR.2.2.2.1 at' (by rw [row_len (by omega)]; omega)
      have c2 := cell_z hR.2.2.2.1 (at' + 1) (by rw [row_len (by omega)]; omega)
      have f1 := free_ints hR.2.2.2.2 k
      have c3 := cell_ints hR.2.2.2.2 k (by rw [digs_len]; omega)
      obtain ⟨x, y, hx, hy, hxy⟩ : ∃ x y : Nat, (row 8 (R : Int)).getD at' 0 = (x : Int) ∧ (row 8 (R : Int)).getD (at' + 1) 0 = (y : Int) ∧ ((x < 268435456 ∧ x = (R / 268435456 ^ at') % 268435456 ∧ y % 268435456 = R / 268435456 ^ at' / 268435456 % 268435456 ∧ y ≤ 268435456) ∨ (x = R / 268435456 ^ at' ∧ y = 0 ∧ x ≤ 268435456)) := by
        by_cases h8 : at' = 8
        · subst h8
          exact ⟨_, 0, rowN_top 8 R, row_get_gt _ (by omega), .inr ⟨rfl, rfl, hb8⟩⟩
        · have e1 : R / 268435456 ^ at' / 268435456 = R / 268435456 ^ (at' + 1) := by rw [Nat.div_div_eq_div_mul, ← Nat.pow_succ]
          by_cases h7 : at' = 7
          · subst h7
            exact ⟨_, _, rowN_lt R (by omega), rowN_top 8 R, .inl ⟨by omega, rfl, by rw [e1], hb8⟩⟩
          · refine ⟨_, _, rowN_lt R (by omega), rowN_lt R (by omega), .inl ⟨by omega, rfl, by rw [e1]; omega, by omega⟩⟩
      rw [hx] at c1
      rw [hy] at c2
      have hbyte := byte_w (R / 268435456 ^ at') s x y hs7 hxy
      have hpe : R / 268435456 ^ at' / 2 ^ s = R / 256 ^ k := by
        rw [Nat.div_div_eq_div_mul, show (268435456 : Nat) = 2 ^ 28 from rfl, ← Nat.pow_mul, ← Nat.pow_add, pow256, show 28 * at' + s = 8 * k by omega]
      rw [hpe] at hbyte
      have hxl : x ≤ 268435456 ∧ y ≤ 268435456 := by omega
      have hyb : (y : Int) * 2 ^ (28 - s) ≤ 72057594037927936 := by
        have hp : 2 ^ (28 - s) ≤ 2 ^ 28 := Nat.pow_le_pow_right (by decide) (by omega)
        have hy : y * 2 ^ (28 - s) ≤ 268435456 * 2 ^ 28 := Nat.mul_le_mul (by omega) hp
        have e2 : ((y : Int) * 2 ^ (28 - s)) = ((y * 2 ^ (28 - s) : Nat) : Int) := by simp
        rw [e2]; omega
      have hyb0 : 0 ≤ (y : Int) * 2 ^ (28 - s) := by
        have e2 : ((y : Int) * 2 ^ (28 - s)) = ((y * 2 ^ (28 - s) : Nat) : Int) := by simp
        rw [e2]; omega
      have HN : Hid (RelB w (wr.setCell ⟨gb, k, none⟩ (.int .u8 (bits .or .i64 ((x : Int) / 2 ^ s) ((y : Int) * 2 ^ (28 - s)) % 256))).drew g gb (row 8 (R : Int)) (digs 32 (R % 256 ^ (k + 1)))) := by
        show RelB _ _ _ _ _ _
        rw [hbyte]
        have := digs_set (N := 32) (Y := R % 256 ^ k) (k := k) (d := R / 256 ^ k % 256) (Nat.mod_lt _ (pos256 k)) (Nat.mod_lt _ (by decide)) (by omega)
        rw [Nat.pow_succ, Nat.mod_mul, ← this]
        exact (hR.set _ _).drew
      clear hx hy hxy hbyte hpe hR hat hs
      go_wp2_with fail
      go_region
      go_wp2
      go_roundw
      case rel => exact ⟨k + 1, by omega, by go_num, HN.out⟩
      case measure => simp [intOf]; omega
    · obtain rfl : k = 32 := by omega
      rw [Nat.mod_eq_of_lt (Nat.lt_trans HR.out (by decide))] at hR
      go_wp2
      go_ret
      exact ⟨gb, rfl, hR.2.1, hR.1, hR.2.2.2.2⟩
end Go.Proofs.YtoehjkebfpoigaaDoor
