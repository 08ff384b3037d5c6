/-
  The walks of the reference's turn, low, top.
-/
import Derived.Test.YtomfnkbghlpkeaaDoorRMath
import Derived.Test.YtomfnkbghlpkeaaDoorH
set_option linter.unusedVariables false
namespace Go.Proofs.YtomfnkbghlpkeaaDoor
open Go.RowKit Go.Sort Go.BigFrame
set_option maxRecDepth 100000
set_option maxHeartbeats 1000000

theorem turnH32 (vA vB vC vD vK vF : Value) (x n : Nat) (w : World) (hx : x < 2 ^ 32) (hn : n ≤ 64) :
    Calls Tryd.prog 40 #[.agg #[.int .i64 32, .int .i64 64, vA, vB, vC, vD, vK, vF], .int .u64 (x : Int), .int .i64 (n : Int)] w fun e w' => e = .returned (.int .u64 ((turnN 32 x n : Nat) : Int)) ∧ Below w.heap.size w w' := by
  go_enter Tryd.func40, Tryd.ntmps40
  go_wp2_with fail
  have hB := below1 w (.cells #[.int .i64 32, .int .i64 64, vA, vB, vC, vD, vK, vF] 37)
  have c0 : (w.alloc (.cells #[.int .i64 32, .int .i64 64, vA, vB, vC, vD, vK, vF] 37)).cell? ⟨w.heap.size, 0, none⟩ = some (.int .i64 32) := by rw [cell_of_row _ _ _ _ _ _ (heap_alloc_new _ _)]; rfl
  obtain ⟨w1, hw1⟩ : ∃ x, x = w.alloc (.cells #[.int .i64 32, .int .i64 64, vA, vB, vC, vD, vK, vF] 37) := ⟨_, rfl⟩
  rw [← hw1] at hB c0 ⊢
  clear hw1
  go_loop [7, 1] (fun i v => ∃ k : Nat, k ≤ n ∧ i = .int .i64 (k : Int) ∧ v = .int .u64 ((turnN 32 x k : Nat) : Int)) (fun i _ => n - (intOf i).toNat)
  case atStart => exact ⟨0, by omega, rfl, rfl⟩
  case round =>
    obtain ⟨k, hk, rfl, rfl⟩ := hrel
    by_cases hlt : k < n
    · have hb := turnN_lt 32 x (by decide) hx k
      have hT : turnN 32 x (k + 1) = turnN 32 x k / 2 + turnN 32 x k % 2 * 2147483648 := rfl
      obtain ⟨y, hy⟩ : ∃ y, y = turnN 32 x k := ⟨_, rfl⟩
      rw [← hy] at hb hT ⊢
      have hy64 : y < 4294967296 := hb
      have HT : Hid (turnN 32 x (k + 1) = y / 2 + y % 2 * 2147483648) := hT
      clear hb hT hy
      by_cases ho : y % 2 = 1
      · have ho' : (y : Int) % 2 = 1 := by omega
        have HO : Hid (y % 2 = 1) := ho
        clear ho
        go_wp2_with fail
        go_round
        case rel => exact ⟨k + 1, by omega, by go_num, by rw [HT.out, HO.out]; go_num⟩
        case measure => simp [intOf]; omega
      · have ho' : (y : Int) % 2 = 0 := by omega
        have HO : Hid (y % 2 = 0) := by show y % 2 = 0; omega
        clear ho
        go_wp2_with fail
        go_round
        case rel => exact ⟨k + 1, by omega, by go_num, by rw [HT.out, HO.out]; go_num⟩
        case measure => simp [intOf]; omega
    · obtain rfl : k = n := by omega
      go_wp2_with fail
      go_ret
      exact ⟨rfl, hB⟩

theorem turnH64 (vA vB vC vD vK vF : Value) (x n : Nat) (w : World) (hx : x < 2 ^ 64) (hn : n ≤ 64) :
    Calls Tryd.prog 40 #[.agg #[.int .i64 64, .int .i64 80, vA, vB, vC, vD, vK, vF], .int .u64 (x : Int), .int .i64 (n : Int)] w fun e w' => e = .returned (.int .u64 ((turnN 64 x n : Nat) : Int)) ∧ Below w.heap.size w w' := by
  go_enter Tryd.func40, Tryd.ntmps40
  go_wp2_with fail
  have hB := below1 w (.cells #[.int .i64 64, .int .i64 80, vA, vB, vC, vD, vK, vF] 37)
  have c0 : (w.alloc (.cells #[.int .i64 64, .int .i64 80, vA, vB, vC, vD, vK, vF] 37)).cell? ⟨w.heap.size, 0, none⟩ = some (.int .i64 64) := by rw [cell_of_row _ _ _ _ _ _ (heap_alloc_new _ _)]; rfl
  obtain ⟨w1, hw1⟩ : ∃ x, x = w.alloc (.cells #[.int .i64 64, .int .i64 80, vA, vB, vC, vD, vK, vF] 37) := ⟨_, rfl⟩
  rw [← hw1] at hB c0 ⊢
  clear hw1
  go_loop [7, 1] (fun i v => ∃ k : Nat, k ≤ n ∧ i = .int .i64 (k : Int) ∧ v = .int .u64 ((turnN 64 x k : Nat) : Int)) (fun i _ => n - (intOf i).toNat)
  case atStart => exact ⟨0, by omega, rfl, rfl⟩
  case round =>
    obtain ⟨k, hk, rfl, rfl⟩ := hrel
    by_cases hlt : k < n
    · have hb := turnN_lt 64 x (by decide) hx k
      have hT : turnN 64 x (k + 1) = turnN 64 x k / 2 + turnN 64 x k % 2 * 9223372036854775808 := rfl
      obtain ⟨y, hy⟩ : ∃ y, y = turnN 64 x k := ⟨_, rfl⟩
      rw [← hy] at hb hT ⊢
      have hy64 : y < 18446744073709551616 := hb
      have HT : Hid (turnN 64 x (k + 1) = y / 2 + y % 2 * 9223372036854775808) := hT
      clear hb hT hy
      by_cases ho : y % 2 = 1
      · have ho' : (y : Int) % 2 = 1 := by omega
        have HO : Hid (y % 2 = 1) := ho
        clear ho
        go_wp2_with fail
        go_round
        case rel => exact ⟨k + 1, by omega, by go_num, by rw [HT.out, HO.out]; go_num⟩
        case measure => simp [intOf]; omega
      · have ho' : (y : Int) % 2 = 0 := by omega
        have HO : Hid (y % 2 = 0) := by show y % 2 = 0; omega
        clear ho
        go_wp2_with fail
        go_round
        case rel => exact ⟨k + 1, by omega, by go_num, by rw [HT.out, HO.out]; go_num⟩
        case measure => simp [intOf]; omega
    · obtain rfl : k = n := by omega
      go_wp2_with fail
      go_ret
      exact ⟨rfl, hB⟩

theorem lowH32 (vA vB vC vD vK vF : Value) (x : Nat) (w : World) (hx : x < 18446744073709551616) :
    Calls Tryd.prog 36 #[.agg #[.int .i64 32, .int .i64 64, vA, vB, vC, vD, vK, vF], .int .u64 (x : Int)] w fun e w' => e = .returned (.int .u64 ((x % 4294967296 : Nat) : Int)) ∧ Below w.heap.size w w' := by
  go_enter Tryd.func36, Tryd.ntmps36
  go_wp2
  go_ret
  exact ⟨ret_int (by simp), below1 _ _⟩

theorem topH32 (vA vB vC vD vK vF : Value) (x : Nat) (w : World) (hx : x < 18446744073709551616) :
    Calls Tryd.prog 26 #[.agg #[.int .i64 32, .int .i64 64, vA, vB, vC, vD, vK, vF], .int .u64 (x : Int)] w fun e w' => e = .returned (.int .u64 ((x / 4294967296 : Nat) : Int)) ∧ Below w.heap.size w w' := by
  go_enter Tryd.func26, Tryd.ntmps26
  go_wp2
  go_ret
  exact ⟨ret_int (by simp), below1 _ _⟩

theorem lowH64 (vA vB vC vD vK vF : Value) (x : Nat) (w : World) (hx : x < 18446744073709551616) :
    Calls Tryd.prog 36 #[.agg #[.int .i64 64, .int .i64 80, vA, vB, vC, vD, vK, vF], .int .u64 (x : Int)] w fun e w' => e = .returned (.int .u64 ((x : Nat) : Int)) ∧ Below w.heap.size w w' := by
  go_enter Tryd.func36, Tryd.ntmps36
  go_wp2
  go_ret
  exact ⟨ret_int (by simp), below1 _ _⟩

theorem topH64 (vA vB vC vD vK vF : Value) (x : Nat) (w : World) (hx : x < 18446744073709551616) :
    Calls Tryd.prog 26 #[.agg #[.int .i64 64, .int .i64 80, vA, vB, vC, vD, vK, vF], .int .u64 (x : Int)] w fun e w' => e = .returned (.int .u64 ((x : Nat) : Int)) ∧ Below w.heap.size w w' := by
  go_enter Tryd.func26, Tryd.ntmps26
  go_wp2
  go_ret
  exact ⟨ret_int (by simp), below1 _ _⟩
end Go.Proofs.YtomfnkbghlpkeaaDoor
