/-
  The walk of addProduct.
-/
import Derived.Test.YtoehjkebfpoigaaDoorWE
set_option linter.unusedVariables false
namespace Go.Proofs.YtoehjkebfpoigaaDoor
open Go.RowKit Go.Sort Go.BigFrame
set_option maxRecDepth 100000
set_option maxHeartbeats 2000000
theorem row18_bound {X : Nat} (h : X < 256 ^ 64) (j : Nat) : 0 ≤ (row 18 (X : Int)).getD j 0 ∧ (row 18 (X : Int)).getD j 0 ≤ 268435455 := by
  rcases Nat.lt_trichotomy j 18 with h1 | h1 | h1
  · rw [rowN_lt X h1]; omega
  · subst h1
    rw [rowN_top]
    have : X / 268435456 ^ 18 < 268435456 := (Nat.div_lt_iff_lt_mul (by decide)).2 (Nat.lt_trans h (by decide))
    omega
  · rw [row_get_gt _ h1]; omega
theorem row_take10 {X : Nat} (h : X < 256 ^ 32) : valW ((row 18 (X : Int)).take 10) = (X : Int) := by
  have h1 := valW_append ((row 18 (X : Int)).take 10) ((row 18 (X : Int)).drop 10)
  rw [List.take_append_drop, valW_row] at h1
  have hz : (row 18 (X : Int)).drop 10 = List.replicate 9 0 := by
    apply List.ext_getElem
    · rw [List.length_drop, row_len (by omega)]; simp
    · intro i h2 h3
      have hi : i < 9 := by simpa using h3
      have h4 : 10 + i < (row 18 (X : Int)).length := by rw [row_len (by omega)]; omega
      have h5 : (row 18 (X : Int)).getD (10 + i) 0 = 0 := by
        have hz : X / 268435456 ^ (10 + i) = 0 := Nat.div_eq_of_lt (Nat.lt_of_lt_of_le h (Nat.le_trans (by decide : 256 ^ 32 ≤ 268435456 ^ 10) (Nat.pow_le_pow_right (by decide) (by omega))))
        by_cases h18 : 10 + i < 18
        · rw [rowN_lt X h18, hz]; rfl
        · have : 10 + i = 18 := by omega
          rw [this] at hz ⊢
          rw [rowN_top, hz]; rfl
      rw [List.getElem_drop, List.getElem_replicate]
      rw [List.getD_eq_getElem?_getD, List.getElem?_eq_getElem h4] at h5
      exact h5
  rw [hz, valW_rep] at h1
  omega
/-- What the row under work has come to. -/
def AInv (l : List Int) (n : Nat) (V : Int) : Prop := l.length = 19 ∧ (∀ j, 0 ≤ l.getD j 0 ∧ l.getD j 0 ≤ 268435456 + 72057594037927936 * (n : Int)) ∧ valW l = V
theorem AInv.step {l : List Int} {n i j : Nat} {V x y : Int} (h : AInv l n V) (hi : i + j < 19) (hx0 : 0 ≤ x) (hx : x ≤ 268435455) (hy0 : 0 ≤ y) (hy : y ≤ 268435455) : AInv (l.set (i + j) (l.getD (i + j) 0 + x * y)) (n + 1) (V + 268435456 ^ i * x * (268435456 ^ j * y)) := by
  obtain ⟨h1, h2, h3⟩ := h
  have hp0 : 0 ≤ x * y := Int.mul_nonneg hx0 hy0
  have hp : x * y ≤ 268435455 * 268435455 := Int.mul_le_mul hx hy hy0 (by decide)
  refine ⟨by rw [List.length_set]; exact h1, fun k => ?_, ?_⟩
  · have a := h2 k
    have b := h2 (i + j)
    rw [set_getD]
    split <;> omega
  · rw [valW_set _ _ _ (by omega), h3, show l.getD (i + j) 0 + x * y - l.getD (i + j) 0 = x * y by omega, Int.pow_add]
    congr 1
    rw [Int.mul_assoc, Int.mul_assoc, Int.mul_left_comm (268435456 ^ j)]
theorem addProduct25 (g gx gy : Nat) (C X Y : Nat) (w : World) (hC : C < 256 ^ 32) (hX : X < 256 ^ 32) (hY : Y < 256 ^ 32) (hgx : gx ≠ g) (hgy : gy ≠ g)
    (hg : w.heap[g]? = some (.cells (zints (row 18 (C : Int))) 35 (0, 0))) (hx : w.heap[gx]? = some (.cells (zints (row 18 (X : Int))) 35 (0, 0))) (hy : w.heap[gy]? = some (.cells (zints (row 18 (Y : Int))) 35 (0, 0))) :
    Calls Tryd.prog 25 #[.pointer (some ⟨g, 0, none⟩), .pointer (some ⟨gx, 0, none⟩), .pointer (some ⟨gy, 0, none⟩)] w fun e w' => e = .returned (.tuple #[]) ∧ WRow w w' g (row 18 ((X * Y + C : Nat) : Int)) := by
  have hbx := row18_bound (Nat.lt_trans hX (by decide))
  have hby := row18_bound (Nat.lt_trans hY (by decide))
  have hbc := row18_bound (Nat.lt_trans hC (by decide))
  have hvx := row_take10 hX
  have hvy := row_take10 hY
  obtain ⟨xs, hxs⟩ : ∃ l, l = row 18 (X : Int) := ⟨_, rfl⟩
  obtain ⟨ys, hys⟩ : ∃ l, l = row 18 (Y : Int) := ⟨_, rfl⟩
  have hlx : xs.length = 19 := by rw [hxs, row_len (by omega)]
  have hly : ys.length = 19 := by rw [hys, row_len (by omega)]
  rw [← hxs] at hx hbx hvx
  rw [← hys] at hy hby hvy
  have cx : ∀ wr k, Frm g w wr → k < 19 → wr.cell? ⟨gx, k, none⟩ = some (.int .i64 (xs.getD k 0)) := fun wr k hf hk => cell_z ((hf.block gx hgx).trans hx) k (by omega)
  have cy : ∀ wr k, Frm g w wr → k < 19 → wr.cell? ⟨gy, k, none⟩ = some (.int .i64 (ys.getD k 0)) := fun wr k hf hk => cell_z ((hf.block gy hgy).trans hy) k (by omega)
  have HVX : Hid (valW (xs.take 10) = (X : Int)) := hvx
  have HVY : Hid (valW (ys.take 10) = (Y : Int)) := hvy
  have hA0 : Hid (AInv (row 18 (C : Int)) 0 ((C : Int) + valW (xs.take 0) * (Y : Int))) := ⟨row_len (by omega) _, fun j => by have := hbc j; omega, by rw [valW_row]; simp [valW]⟩
  have hR0 : WRow w w g (row 18 (C : Int)) := ⟨Frm.refl _ _, hg⟩
  clear hxs hys hlx hly hx hy hvx hvy hX hY hC hbc hg
  go_enter Tryd.func25, Tryd.ntmps25
  go_wp2_with fail
  go_loopw [8] (fun i wr => ∃ k : Nat, k ≤ 10 ∧ i = .int .i64 k ∧ ∃ l', AInv l' (10 * k) ((C : Int) + valW (xs.take k) * (Y : Int)) ∧ WRow w wr g l') (fun i _ => 10 - (intOf i).toNat)
  case atStart => exact ⟨0, by omega, rfl, _, hA0.out, hR0⟩
  case round =>
    obtain ⟨k, hk, rfl, l', hA, hR⟩ := hrel
    clear hR0 hA0
    by_cases hlt : k < 10
    · have hxk := hbx k
      have HXS : Hid (valW (xs.take (k + 1)) = valW (xs.take k) + 268435456 ^ k * xs.getD k 0) := valW_take_succ _ _
      have hA1 : Hid (AInv l' (10 * k + 0) ((C : Int) + valW (xs.take k) * (Y : Int) + 268435456 ^ k * xs.getD k 0 * valW (ys.take 0))) := by
        have : (C : Int) + valW (xs.take k) * (Y : Int) + 268435456 ^ k * xs.getD k 0 * valW (ys.take 0) = (C : Int) + valW (xs.take k) * (Y : Int) := by simp [valW]
        show AInv _ _ _
        rw [this]; exact hA
      have cxk : ∀ wr, Frm g w wr → wr.cell? ⟨gx, k, none⟩ = some (.int .i64 (xs.getD k 0)) := fun wr hf => cx wr k hf (by omega)
      obtain ⟨x, hxe⟩ : ∃ x, x = xs.getD k 0 := ⟨_, rfl⟩
      rw [← hxe] at hxk HXS hA1 cxk
      clear hA hxe
      go_wp2_with fail
      go_loopw [11] (fun i wr => ∃ j : Nat, j ≤ 10 ∧ i = .int .i64 j ∧ ∃ l', AInv l' (10 * k + j) ((C : Int) + valW (xs.take k) * (Y : Int) + 268435456 ^ k * x * valW (ys.take j)) ∧ WRow w wr g l') (fun i _ => 10 - (intOf i).toNat)
      case atStart => exact ⟨0, by omega, rfl, _, hA1.out, hR⟩
      case round =>
        obtain ⟨j, hj, rfl, l2, hA2, hR2⟩ := hrel
        clear hR hA1
        by_cases hlt2 : j < 10
        · have hyj := hby j
          have cyj := cy wr j hR2.1 (by omega)
          have cxj := cxk wr hR2.1
          have hl2 := hA2.1
          have hb2 := hA2.2.1 (k + j)
          have c1 := hR2.at (k + j) (by omega)
          have f1 := hR2.free (k + j)
          have hst := hA2.step (i := k) (j := j) (x := x) (y := ys.getD j 0) (by omega) hxk.1 hxk.2 hyj.1 hyj.2
          have hRn := (hR2.set (k + j) (l2.getD (k + j) 0 + x * ys.getD j 0)).drew
          have hys := valW_take_succ ys j
          obtain ⟨y, hye⟩ : ∃ y, y = ys.getD j 0 := ⟨_, rfl⟩
          obtain ⟨z, hze⟩ : ∃ z, z = l2.getD (k + j) 0 := ⟨_, rfl⟩
          rw [← hye] at hyj cyj hst hRn hys
          rw [← hze] at hb2 c1 hst hRn
          have hp0 : 0 ≤ x * y := Int.mul_nonneg hxk.1 hyj.1
          have hp : x * y ≤ 268435455 * 268435455 := Int.mul_le_mul hxk.2 hyj.2 hyj.1 (by decide)
          have HN : Hid (∃ l3, AInv l3 (10 * k + (j + 1)) ((C : Int) + valW (xs.take k) * (Y : Int) + 268435456 ^ k * x * valW (ys.take (j + 1))) ∧ WRow w (wr.setCell ⟨g, k + j, none⟩ (.int .i64 (z + x * y))).drew g l3) := by
            refine ⟨_, ?_, hRn⟩
            rw [hys, Int.mul_add, ← Int.add_assoc, ← Nat.add_assoc]
            exact hst
          have hzl : 0 ≤ z ∧ z ≤ 8000000000000000000 := by omega
          clear hst hRn hys hye hze hb2 hA2 hR2 cx cy cxk hbx hby hl2
          go_wp2_with fail
          go_big_region
          go_wp2
          go_roundw
          case rel => exact ⟨j + 1, by omega, by go_num, HN.out⟩
          case measure => simp [intOf]; omega
        · obtain rfl : j = 10 := by omega
          have HN : Hid (∃ l3, AInv l3 (10 * (k + 1)) ((C : Int) + valW (xs.take (k + 1)) * (Y : Int)) ∧ WRow w wr g l3) := by
            refine ⟨l2, ?_, hR2⟩
            rw [HXS.out, Int.add_mul, ← Int.add_assoc, ← HVY.out]
            rw [← HVY.out] at hA2
            exact hA2
          clear hA2 hR2 cx cy cxk hbx hby
          go_wp2
          go_roundw
          case rel => exact ⟨k + 1, by omega, by go_num, HN.out⟩
          case measure => simp [intOf]; omega
    · obtain rfl : k = 10 := by omega
      have hc := settle30 g 18 l' wr hA.1 (by omega) (fun j => by have := hA.2.1 j; omega) hR.2
      rw [stl18 hA.1, hA.2.2, HVX.out, show (C : Int) + (X : Int) * (Y : Int) = ((X * Y + C : Nat) : Int) by simp; omega] at hc
      have hF := hR.1
      clear hA hR cx cy hbx hby
      go_wp2_with fail
      refine hc.mono ?_
      rintro e w1 ⟨rfl, hR1⟩
      go_wp2
      go_end0
      exact ⟨rfl, hF.trans hR1.1, hR1.2⟩
end Go.Proofs.YtoehjkebfpoigaaDoor
