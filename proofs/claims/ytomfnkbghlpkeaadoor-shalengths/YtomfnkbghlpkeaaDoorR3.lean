/-
  The walk of the reference's bytes.
-/
import Derived.Test.YtomfnkbghlpkeaaDoorR2
set_option linter.unusedVariables false
namespace Go.Proofs.YtomfnkbghlpkeaaDoor
open Go.RowKit Go.Sort Go.BigFrame
set_option maxRecDepth 100000
set_option maxHeartbeats 400000
def divN (x : Nat) : Nat → Nat
  | 0 => x
  | j + 1 => divN x j / 256
theorem divN_lt (x : Nat) (h : x < 18446744073709551616) : ∀ j, divN x j < 18446744073709551616
  | 0 => h
  | j + 1 => Nat.lt_of_le_of_lt (Nat.div_le_self _ _) (divN_lt x h j)
def bwN (m x : Nat) : Nat → List Nat
  | 0 => List.replicate m 0
  | j + 1 => (bwN m x j).set (m - 1 - j) (divN x j % 256)
theorem bwN_len (m x : Nat) : ∀ j, (bwN m x j).length = m
  | 0 => by simp [bwN]
  | j + 1 => by simp [bwN, bwN_len m x j]

def bz32 : List Nat := List.replicate 4 0
theorem bytes_wb32 (x : Nat) : bwN 4 x 4 = wb 32 x 4 := by
  simp [bwN, divN, wb, Nat.shiftRight_eq_div_pow, Nat.div_div_eq_div_mul, List.replicate]
theorem bytesH32 (vA vB vC vD vK vF : Value) (x : Nat) (w : World) (hx : x < 18446744073709551616) :
    Calls Tryd.prog 29 #[.agg #[.int .i64 32, .int .i64 64, vA, vB, vC, vD, vK, vF], .int .u64 (x : Int)] w fun e w' => ∃ v, e = .returned v ∧ ∃ g, v = .slice (some ⟨g, 0, none⟩) 4 4 ∧ Below w.heap.size w w' ∧ w.heap.size ≤ g ∧ w'.heap[g]? = some (.cells (ints .u8 (wb 32 x 4)) 5 (0, 0)) := by
  have hmk : ∀ w, (Instr.makeSlice 22 (.int .i64 4) (.int .i64 4)).run Tryd.prog w = .ok (.slice (some ⟨w.heap.size, 0, none⟩) 4 4) (w.alloc (.cells (ints .u8 bz32) 5)) := fun _ => by kernel_rfl
  go_enter Tryd.func29, Tryd.ntmps29
  go_wp2_with fail
  go_loopw [6, 1] (fun i v wr => ∃ j : Nat, j ≤ 4 ∧ i = .int .i64 (3 - (j : Int)) ∧ v = .int .u64 ((divN x j : Nat) : Int) ∧ Below w.heap.size w wr ∧ wr.heap[w.heap.size + 1]? = some (.cells (ints .u8 (bwN 4 x j)) 5 (0, 0))) (fun i _ _ => (intOf i + 1).toNat)
  case atStart => exact ⟨0, by omega, rfl, rfl, below2 _ _ _, heap_alloc2_new _ _ _⟩
  case round =>
    obtain ⟨j, hj, rfl, rfl, hB, hr⟩ := hrel
    have hd := divN_lt x hx j
    obtain ⟨y, hy⟩ : ∃ y, y = divN x j := ⟨_, rfl⟩
    rw [← hy] at hd ⊢
    by_cases hlt : j < 4
    · obtain ⟨v0, c0⟩ : ∃ v, wr.cell? ⟨w.heap.size + 1, 3 - j, none⟩ = some v := ⟨_, cell_ints hr (3 - j) (by rw [bwN_len]; omega)⟩
      have f0 := free_ints hr (3 - j)
      have HN : Hid (Below w.heap.size w (wr.setCell ⟨w.heap.size + 1, 3 - j, none⟩ (.int .u8 ((y % 256 : Nat) : Int))) ∧ (wr.setCell ⟨w.heap.size + 1, 3 - j, none⟩ (.int .u8 ((y % 256 : Nat) : Int))).heap[w.heap.size + 1]? = some (.cells (ints .u8 (bwN 4 x (j + 1))) 5 (0, 0))) := by
        rw [hy]; exact ⟨hB.setCell (by simp) _, set_ints hr _ _⟩
      have HD : Hid (divN x (j + 1) = y / 256) := by rw [hy]; rfl
      clear hy hB hr
      go_wp2_with fail
      go_roundw
      case rel => exact ⟨j + 1, by omega, by go_num, by rw [HD.out]; go_num, HN.out.1, HN.out.2⟩
      case measure => simp [intOf]; omega
    · obtain rfl : j = 4 := by omega
      go_wp2_with fail
      go_ret
      exact ⟨_, rfl, w.heap.size + 1, rfl, hB, by omega, by rw [← bytes_wb32]; exact hr⟩

def bz64 : List Nat := List.replicate 8 0
theorem bytes_wb64 (x : Nat) : bwN 8 x 8 = wb 64 x 8 := by
  simp [bwN, divN, wb, Nat.shiftRight_eq_div_pow, Nat.div_div_eq_div_mul, List.replicate]
theorem bytesH64 (vA vB vC vD vK vF : Value) (x : Nat) (w : World) (hx : x < 18446744073709551616) :
    Calls Tryd.prog 29 #[.agg #[.int .i64 64, .int .i64 80, vA, vB, vC, vD, vK, vF], .int .u64 (x : Int)] w fun e w' => ∃ v, e = .returned v ∧ ∃ g, v = .slice (some ⟨g, 0, none⟩) 8 8 ∧ Below w.heap.size w w' ∧ w.heap.size ≤ g ∧ w'.heap[g]? = some (.cells (ints .u8 (wb 64 x 8)) 5 (0, 0)) := by
  have hmk : ∀ w, (Instr.makeSlice 22 (.int .i64 8) (.int .i64 8)).run Tryd.prog w = .ok (.slice (some ⟨w.heap.size, 0, none⟩) 8 8) (w.alloc (.cells (ints .u8 bz64) 5)) := fun _ => by kernel_rfl
  go_enter Tryd.func29, Tryd.ntmps29
  go_wp2_with fail
  go_loopw [6, 1] (fun i v wr => ∃ j : Nat, j ≤ 8 ∧ i = .int .i64 (7 - (j : Int)) ∧ v = .int .u64 ((divN x j : Nat) : Int) ∧ Below w.heap.size w wr ∧ wr.heap[w.heap.size + 1]? = some (.cells (ints .u8 (bwN 8 x j)) 5 (0, 0))) (fun i _ _ => (intOf i + 1).toNat)
  case atStart => exact ⟨0, by omega, rfl, rfl, below2 _ _ _, heap_alloc2_new _ _ _⟩
  case round =>
    obtain ⟨j, hj, rfl, rfl, hB, hr⟩ := hrel
    have hd := divN_lt x hx j
    obtain ⟨y, hy⟩ : ∃ y, y = divN x j := ⟨_, rfl⟩
    rw [← hy] at hd ⊢
    by_cases hlt : j < 8
    · obtain ⟨v0, c0⟩ : ∃ v, wr.cell? ⟨w.heap.size + 1, 7 - j, none⟩ = some v := ⟨_, cell_ints hr (7 - j) (by rw [bwN_len]; omega)⟩
      have f0 := free_ints hr (7 - j)
      have HN : Hid (Below w.heap.size w (wr.setCell ⟨w.heap.size + 1, 7 - j, none⟩ (.int .u8 ((y % 256 : Nat) : Int))) ∧ (wr.setCell ⟨w.heap.size + 1, 7 - j, none⟩ (.int .u8 ((y % 256 : Nat) : Int))).heap[w.heap.size + 1]? = some (.cells (ints .u8 (bwN 8 x (j + 1))) 5 (0, 0))) := by
        rw [hy]; exact ⟨hB.setCell (by simp) _, set_ints hr _ _⟩
      have HD : Hid (divN x (j + 1) = y / 256) := by rw [hy]; rfl
      clear hy hB hr
      go_wp2_with fail
      go_roundw
      case rel => exact ⟨j + 1, by omega, by go_num, by rw [HD.out]; go_num, HN.out.1, HN.out.2⟩
      case measure => simp [intOf]; omega
    · obtain rfl : j = 8 := by omega
      go_wp2_with fail
      go_ret
      exact ⟨_, rfl, w.heap.size + 1, rfl, hB, by omega, by rw [← bytes_wb64]; exact hr⟩
end Go.Proofs.YtomfnkbghlpkeaaDoor
