/-
  The walks of the reference's mixed.
-/
import Derived.Test.YtomfnkbghlpkeaaDoorR1
set_option linter.unusedVariables false
namespace Go.Proofs.YtomfnkbghlpkeaaDoor
open Go.RowKit Go.Sort Go.BigFrame
set_option maxRecDepth 100000
set_option maxHeartbeats 400000
theorem row_at {w : World} {g t : Nat} {cs : Array Value} (h : w.heap[g]? = some (.cells cs t (0, 0))) (j : Nat) (v : Value) (hv : cs[j]? = some v) : w.cell? ⟨g, j, none⟩ = some v := by
  rw [cell_of_row w g j _ _ _ h]; exact hv

theorem mixed32n (vA vB vC vD vK vF : Value) (x g c b0 b1 b2 : Nat) (w : World) (hx : x < 2 ^ 32) (h0 : b0 ≤ 32) (h1 : b1 ≤ 32) (h2 : b2 ≤ 32)
    (k0 : w.cell? ⟨g, 0, none⟩ = some (.int .i64 (b0 : Int))) (k1 : w.cell? ⟨g, 1, none⟩ = some (.int .i64 (b1 : Int))) (k2 : w.cell? ⟨g, 2, none⟩ = some (.int .i64 (b2 : Int))) :
    Calls Tryd.prog 35 #[.agg #[.int .i64 32, .int .i64 64, vA, vB, vC, vD, vK, vF], .int .u64 (x : Int), .slice (some ⟨g, 0, none⟩) 3 c, .bool false] w fun e w' => e = .returned (.int .u64 ((tn 32 x b0 b1 b2 : Nat) : Int)) ∧ Below w.heap.size w w' := by
  have hg : g < w.heap.size := block_lt_of_cell k0
  go_enter Tryd.func35, Tryd.ntmps35
  go_wp2_with fail
  have hB1 := below1 w (.cells #[.int .i64 32, .int .i64 64, vA, vB, vC, vD, vK, vF] 37)
  have hr1 : (w.alloc (.cells #[.int .i64 32, .int .i64 64, vA, vB, vC, vD, vK, vF] 37)).heap[w.heap.size]? = some (.cells #[.int .i64 32, .int .i64 64, vA, vB, vC, vD, vK, vF] 37 (0, 0)) := heap_alloc_new _ _
  have a0 := (hB1.cell (p := ⟨g, 0, none⟩) hg).trans k0
  have a1 := (hB1.cell (p := ⟨g, 1, none⟩) hg).trans k1
  have a2 := (hB1.cell (p := ⟨g, 2, none⟩) hg).trans k2
  obtain ⟨w1, hw1⟩ : ∃ x, x = w.alloc (.cells #[.int .i64 32, .int .i64 64, vA, vB, vC, vD, vK, vF] 37) := ⟨_, rfl⟩
  rw [← hw1] at hB1 hr1 a0 a1 a2 ⊢
  clear hw1 k0 k1 k2
  have q0 := cell_regrown (row_at hr1 0 (.int .i64 32) rfl)
  have q1 := cell_regrown (row_at hr1 1 (.int .i64 64) rfl)
  have q2 := cell_regrown (row_at hr1 2 vA rfl)
  have q3 := cell_regrown (row_at hr1 3 vB rfl)
  have q4 := cell_regrown (row_at hr1 4 vC rfl)
  have q5 := cell_regrown (row_at hr1 5 vD rfl)
  have q6 := cell_regrown (row_at hr1 6 vK rfl)
  have q7 := cell_regrown (row_at hr1 7 vF rfl)
  have p2 := cell_regrown a2
  have cQ : ∀ d os, Calls Tryd.prog 40 #[.agg #[.int .i64 32, .int .i64 64, vA, vB, vC, vD, vK, vF], .int .u64 (x : Int), .int .i64 (b2 : Int)] (grow (redrawn w1 d) os) fun e w'' => e = .returned (.int .u64 ((turnN 32 x b2 : Nat) : Int)) ∧ ∃ p : Regrown, w'' = grow (redrawn w1 p.d) p.os :=
    fun d os => Calls.regrown_of (turnH32 vA vB vC vD vK vF x b2 _ hx (by omega))
  refine wp_region_quiet_below (by kernel_rfl) (by kernel_rfl) ?_
  repeat (go_big_quiet_step (exact cQ _ _))
  refine wpQuiet_nil ?_
  intro w2 hw'
  have hb2 : Below w1.heap.size w1 w2 := by obtain ⟨p, rfl⟩ := hw'; exact below_regrown _ _ _
  have hB2 : Below w.heap.size w w2 := hB1.trans (hb2.mono hB1.size)
  have hr2 := block_below hb2 (lt_of_heap hr1) hr1
  have e0 := (hb2.cell (p := ⟨g, 0, none⟩) (by have := hB1.size; simp; omega)).trans a0
  have e1 := (hb2.cell (p := ⟨g, 1, none⟩) (by have := hB1.size; simp; omega)).trans a1
  have e2 := (hb2.cell (p := ⟨g, 2, none⟩) (by have := hB1.size; simp; omega)).trans a2
  clear hw' q0 q1 q2 q3 q4 q5 q6 q7 p2 cQ a0 a1 a2 hr1 hb2
  go_wp2_with fail
  have q0 := cell_regrown (row_at hr2 0 (.int .i64 32) rfl)
  have q1 := cell_regrown (row_at hr2 1 (.int .i64 64) rfl)
  have q2 := cell_regrown (row_at hr2 2 vA rfl)
  have q3 := cell_regrown (row_at hr2 3 vB rfl)
  have q4 := cell_regrown (row_at hr2 4 vC rfl)
  have q5 := cell_regrown (row_at hr2 5 vD rfl)
  have q6 := cell_regrown (row_at hr2 6 vK rfl)
  have q7 := cell_regrown (row_at hr2 7 vF rfl)
  have p0 := cell_regrown e0
  have p1 := cell_regrown e1
  have cQ0 : ∀ d os, Calls Tryd.prog 40 #[.agg #[.int .i64 32, .int .i64 64, vA, vB, vC, vD, vK, vF], .int .u64 (x : Int), .int .i64 (b0 : Int)] (grow (redrawn w2 d) os) fun e w'' => e = .returned (.int .u64 ((turnN 32 x b0 : Nat) : Int)) ∧ ∃ p : Regrown, w'' = grow (redrawn w2 p.d) p.os :=
    fun d os => Calls.regrown_of (turnH32 vA vB vC vD vK vF x b0 _ hx (by omega))
  have cQ1 : ∀ d os, Calls Tryd.prog 40 #[.agg #[.int .i64 32, .int .i64 64, vA, vB, vC, vD, vK, vF], .int .u64 (x : Int), .int .i64 (b1 : Int)] (grow (redrawn w2 d) os) fun e w'' => e = .returned (.int .u64 ((turnN 32 x b1 : Nat) : Int)) ∧ ∃ p : Regrown, w'' = grow (redrawn w2 p.d) p.os :=
    fun d os => Calls.regrown_of (turnH32 vA vB vC vD vK vF x b1 _ hx (by omega))
  refine wp_region_quiet_below (by kernel_rfl) (by kernel_rfl) ?_
  iterate 5 (go_big_quiet_step (fail))
  go_big_quiet_step (exact cQ0 _ _)
  iterate 5 (go_big_quiet_step (fail))
  go_big_quiet_step (exact cQ1 _ _)
  repeat (go_big_quiet_step (fail))
  refine wpQuiet_nil ?_
  intro w3 hw'
  have hb3 : Below w2.heap.size w2 w3 := by obtain ⟨p, rfl⟩ := hw'; exact below_regrown _ _ _
  have hB3 : Below w.heap.size w w3 := hB2.trans (hb3.mono hB2.size)
  clear hw' q0 q1 q2 q3 q4 q5 q6 q7 p0 p1 cQ0 cQ1
  go_wp2_with fail
  go_ret
  refine ⟨ret_int ?_, hB3⟩
  refine (xor3_64 _ _ _ (Nat.lt_of_lt_of_le (turnN_lt 32 x (by decide) hx _) (by decide)) (Nat.lt_of_lt_of_le (turnN_lt 32 x (by decide) hx _) (by decide)) (Nat.lt_of_lt_of_le (turnN_lt 32 x (by decide) hx _) (by decide))).trans ?_
  rw [turnN_rot 32 x b0 hx h0, turnN_rot 32 x b1 hx h1, turnN_rot 32 x b2 hx h2]
  rfl

theorem mixed32s (vA vB vC vD vK vF : Value) (x g c b0 b1 b2 : Nat) (w : World) (hx : x < 2 ^ 32) (h0 : b0 ≤ 32) (h1 : b1 ≤ 32) (h2 : b2 ≤ 32)
    (k0 : w.cell? ⟨g, 0, none⟩ = some (.int .i64 (b0 : Int))) (k1 : w.cell? ⟨g, 1, none⟩ = some (.int .i64 (b1 : Int))) (k2 : w.cell? ⟨g, 2, none⟩ = some (.int .i64 (b2 : Int))) :
    Calls Tryd.prog 35 #[.agg #[.int .i64 32, .int .i64 64, vA, vB, vC, vD, vK, vF], .int .u64 (x : Int), .slice (some ⟨g, 0, none⟩) 3 c, .bool true] w fun e w' => e = .returned (.int .u64 ((ts 32 x b0 b1 b2 : Nat) : Int)) ∧ Below w.heap.size w w' := by
  have hg : g < w.heap.size := block_lt_of_cell k0
  go_enter Tryd.func35, Tryd.ntmps35
  go_wp2_with fail
  have hB1 := below1 w (.cells #[.int .i64 32, .int .i64 64, vA, vB, vC, vD, vK, vF] 37)
  have hr1 : (w.alloc (.cells #[.int .i64 32, .int .i64 64, vA, vB, vC, vD, vK, vF] 37)).heap[w.heap.size]? = some (.cells #[.int .i64 32, .int .i64 64, vA, vB, vC, vD, vK, vF] 37 (0, 0)) := heap_alloc_new _ _
  have a0 := (hB1.cell (p := ⟨g, 0, none⟩) hg).trans k0
  have a1 := (hB1.cell (p := ⟨g, 1, none⟩) hg).trans k1
  have a2 := (hB1.cell (p := ⟨g, 2, none⟩) hg).trans k2
  obtain ⟨w1, hw1⟩ : ∃ x, x = w.alloc (.cells #[.int .i64 32, .int .i64 64, vA, vB, vC, vD, vK, vF] 37) := ⟨_, rfl⟩
  rw [← hw1] at hB1 hr1 a0 a1 a2 ⊢
  clear hw1 k0 k1 k2
  have q0 := cell_regrown (row_at hr1 0 (.int .i64 32) rfl)
  have q1 := cell_regrown (row_at hr1 1 (.int .i64 64) rfl)
  have q2 := cell_regrown (row_at hr1 2 vA rfl)
  have q3 := cell_regrown (row_at hr1 3 vB rfl)
  have q4 := cell_regrown (row_at hr1 4 vC rfl)
  have q5 := cell_regrown (row_at hr1 5 vD rfl)
  have q6 := cell_regrown (row_at hr1 6 vK rfl)
  have q7 := cell_regrown (row_at hr1 7 vF rfl)
  have p2 := cell_regrown a2
  have cQ : ∀ d os, Calls Tryd.prog 40 #[.agg #[.int .i64 32, .int .i64 64, vA, vB, vC, vD, vK, vF], .int .u64 (x : Int), .int .i64 (b2 : Int)] (grow (redrawn w1 d) os) fun e w'' => e = .returned (.int .u64 ((turnN 32 x b2 : Nat) : Int)) ∧ ∃ p : Regrown, w'' = grow (redrawn w1 p.d) p.os :=
    fun d os => Calls.regrown_of (turnH32 vA vB vC vD vK vF x b2 _ hx (by omega))
  refine wp_region_quiet_below (by kernel_rfl) (by kernel_rfl) ?_
  repeat (go_big_quiet_step (exact cQ _ _))
  refine wpQuiet_nil ?_
  intro w2 hw'
  have hb2 : Below w1.heap.size w1 w2 := by obtain ⟨p, rfl⟩ := hw'; exact below_regrown _ _ _
  have hB2 : Below w.heap.size w w2 := hB1.trans (hb2.mono hB1.size)
  have hr2 := block_below hb2 (lt_of_heap hr1) hr1
  have e0 := (hb2.cell (p := ⟨g, 0, none⟩) (by have := hB1.size; simp; omega)).trans a0
  have e1 := (hb2.cell (p := ⟨g, 1, none⟩) (by have := hB1.size; simp; omega)).trans a1
  have e2 := (hb2.cell (p := ⟨g, 2, none⟩) (by have := hB1.size; simp; omega)).trans a2
  clear hw' q0 q1 q2 q3 q4 q5 q6 q7 p2 cQ a0 a1 a2 hr1 hb2
  go_wp2_with fail
  go_loop [10, 9] (fun i v => ∃ k : Nat, k ≤ b2 ∧ i = .int .i64 (k : Int) ∧ v = .int .u64 ((halfN x k : Nat) : Int)) (fun i _ => b2 - (intOf i).toNat)
  case atStart => exact ⟨0, by omega, rfl, rfl⟩
  case round =>
    obtain ⟨k, hk, rfl, rfl⟩ := hrel
    by_cases hlt : k < b2
    · have HT : Hid (halfN x (k + 1) = halfN x k / 2) := rfl
      have hb : halfN x k < 18446744073709551616 := by rw [halfN_shr]; exact shr_lt (Nat.lt_of_lt_of_le hx (by decide))
      obtain ⟨y, hy⟩ : ∃ y, y = halfN x k := ⟨_, rfl⟩
      rw [← hy] at HT hb ⊢
      clear hy
      go_wp2_with fail
      go_round
      case rel => exact ⟨k + 1, by omega, by go_num, by rw [HT.out]; go_num⟩
      case measure => simp [intOf]; omega
    · obtain rfl : k = b2 := by omega
      go_wp2_with fail
      have q0 := cell_regrown (row_at hr2 0 (.int .i64 32) rfl)
      have q1 := cell_regrown (row_at hr2 1 (.int .i64 64) rfl)
      have q2 := cell_regrown (row_at hr2 2 vA rfl)
      have q3 := cell_regrown (row_at hr2 3 vB rfl)
      have q4 := cell_regrown (row_at hr2 4 vC rfl)
      have q5 := cell_regrown (row_at hr2 5 vD rfl)
      have q6 := cell_regrown (row_at hr2 6 vK rfl)
      have q7 := cell_regrown (row_at hr2 7 vF rfl)
      have p0 := cell_regrown e0
      have p1 := cell_regrown e1
      have cQ0 : ∀ d os, Calls Tryd.prog 40 #[.agg #[.int .i64 32, .int .i64 64, vA, vB, vC, vD, vK, vF], .int .u64 (x : Int), .int .i64 (b0 : Int)] (grow (redrawn w2 d) os) fun e w'' => e = .returned (.int .u64 ((turnN 32 x b0 : Nat) : Int)) ∧ ∃ p : Regrown, w'' = grow (redrawn w2 p.d) p.os :=
        fun d os => Calls.regrown_of (turnH32 vA vB vC vD vK vF x b0 _ hx (by omega))
      have cQ1 : ∀ d os, Calls Tryd.prog 40 #[.agg #[.int .i64 32, .int .i64 64, vA, vB, vC, vD, vK, vF], .int .u64 (x : Int), .int .i64 (b1 : Int)] (grow (redrawn w2 d) os) fun e w'' => e = .returned (.int .u64 ((turnN 32 x b1 : Nat) : Int)) ∧ ∃ p : Regrown, w'' = grow (redrawn w2 p.d) p.os :=
        fun d os => Calls.regrown_of (turnH32 vA vB vC vD vK vF x b1 _ hx (by omega))
      refine wp_region_quiet_below (by kernel_rfl) (by kernel_rfl) ?_
      iterate 5 (go_big_quiet_step (fail))
      go_big_quiet_step (exact cQ0 _ _)
      iterate 5 (go_big_quiet_step (fail))
      go_big_quiet_step (exact cQ1 _ _)
      repeat (go_big_quiet_step (fail))
      refine wpQuiet_nil ?_
      intro w3 hw'
      have hb3 : Below w2.heap.size w2 w3 := by obtain ⟨p, rfl⟩ := hw'; exact below_regrown _ _ _
      have hB3 : Below w.heap.size w w3 := hB2.trans (hb3.mono hB2.size)
      clear hw' q0 q1 q2 q3 q4 q5 q6 q7 p0 p1 cQ0 cQ1
      go_wp2_with fail
      go_ret
      refine ⟨ret_int ?_, hB3⟩
      refine (xor3_64 _ _ _ (Nat.lt_of_lt_of_le (turnN_lt 32 x (by decide) hx _) (by decide)) (Nat.lt_of_lt_of_le (turnN_lt 32 x (by decide) hx _) (by decide)) (by rw [halfN_shr]; exact shr_lt (Nat.lt_of_lt_of_le hx (by decide)))).trans ?_
      rw [turnN_rot 32 x b0 hx h0, turnN_rot 32 x b1 hx h1, halfN_shr]
      rfl

theorem mixed64n (vA vB vC vD vK vF : Value) (x g c b0 b1 b2 : Nat) (w : World) (hx : x < 2 ^ 64) (h0 : b0 ≤ 64) (h1 : b1 ≤ 64) (h2 : b2 ≤ 64)
    (k0 : w.cell? ⟨g, 0, none⟩ = some (.int .i64 (b0 : Int))) (k1 : w.cell? ⟨g, 1, none⟩ = some (.int .i64 (b1 : Int))) (k2 : w.cell? ⟨g, 2, none⟩ = some (.int .i64 (b2 : Int))) :
    Calls Tryd.prog 35 #[.agg #[.int .i64 64, .int .i64 80, vA, vB, vC, vD, vK, vF], .int .u64 (x : Int), .slice (some ⟨g, 0, none⟩) 3 c, .bool false] w fun e w' => e = .returned (.int .u64 ((tn 64 x b0 b1 b2 : Nat) : Int)) ∧ Below w.heap.size w w' := by
  have hg : g < w.heap.size := block_lt_of_cell k0
  go_enter Tryd.func35, Tryd.ntmps35
  go_wp2_with fail
  have hB1 := below1 w (.cells #[.int .i64 64, .int .i64 80, vA, vB, vC, vD, vK, vF] 37)
  have hr1 : (w.alloc (.cells #[.int .i64 64, .int .i64 80, vA, vB, vC, vD, vK, vF] 37)).heap[w.heap.size]? = some (.cells #[.int .i64 64, .int .i64 80, vA, vB, vC, vD, vK, vF] 37 (0, 0)) := heap_alloc_new _ _
  have a0 := (hB1.cell (p := ⟨g, 0, none⟩) hg).trans k0
  have a1 := (hB1.cell (p := ⟨g, 1, none⟩) hg).trans k1
  have a2 := (hB1.cell (p := ⟨g, 2, none⟩) hg).trans k2
  obtain ⟨w1, hw1⟩ : ∃ x, x = w.alloc (.cells #[.int .i64 64, .int .i64 80, vA, vB, vC, vD, vK, vF] 37) := ⟨_, rfl⟩
  rw [← hw1] at hB1 hr1 a0 a1 a2 ⊢
  clear hw1 k0 k1 k2
  have q0 := cell_regrown (row_at hr1 0 (.int .i64 64) rfl)
  have q1 := cell_regrown (row_at hr1 1 (.int .i64 80) rfl)
  have q2 := cell_regrown (row_at hr1 2 vA rfl)
  have q3 := cell_regrown (row_at hr1 3 vB rfl)
  have q4 := cell_regrown (row_at hr1 4 vC rfl)
  have q5 := cell_regrown (row_at hr1 5 vD rfl)
  have q6 := cell_regrown (row_at hr1 6 vK rfl)
  have q7 := cell_regrown (row_at hr1 7 vF rfl)
  have p2 := cell_regrown a2
  have cQ : ∀ d os, Calls Tryd.prog 40 #[.agg #[.int .i64 64, .int .i64 80, vA, vB, vC, vD, vK, vF], .int .u64 (x : Int), .int .i64 (b2 : Int)] (grow (redrawn w1 d) os) fun e w'' => e = .returned (.int .u64 ((turnN 64 x b2 : Nat) : Int)) ∧ ∃ p : Regrown, w'' = grow (redrawn w1 p.d) p.os :=
    fun d os => Calls.regrown_of (turnH64 vA vB vC vD vK vF x b2 _ hx (by omega))
  refine wp_region_quiet_below (by kernel_rfl) (by kernel_rfl) ?_
  repeat (go_big_quiet_step (exact cQ _ _))
  refine wpQuiet_nil ?_
  intro w2 hw'
  have hb2 : Below w1.heap.size w1 w2 := by obtain ⟨p, rfl⟩ := hw'; exact below_regrown _ _ _
  have hB2 : Below w.heap.size w w2 := hB1.trans (hb2.mono hB1.size)
  have hr2 := block_below hb2 (lt_of_heap hr1) hr1
  have e0 := (hb2.cell (p := ⟨g, 0, none⟩) (by have := hB1.size; simp; omega)).trans a0
  have e1 := (hb2.cell (p := ⟨g, 1, none⟩) (by have := hB1.size; simp; omega)).trans a1
  have e2 := (hb2.cell (p := ⟨g, 2, none⟩) (by have := hB1.size; simp; omega)).trans a2
  clear hw' q0 q1 q2 q3 q4 q5 q6 q7 p2 cQ a0 a1 a2 hr1 hb2
  go_wp2_with fail
  have q0 := cell_regrown (row_at hr2 0 (.int .i64 64) rfl)
  have q1 := cell_regrown (row_at hr2 1 (.int .i64 80) rfl)
  have q2 := cell_regrown (row_at hr2 2 vA rfl)
  have q3 := cell_regrown (row_at hr2 3 vB rfl)
  have q4 := cell_regrown (row_at hr2 4 vC rfl)
  have q5 := cell_regrown (row_at hr2 5 vD rfl)
  have q6 := cell_regrown (row_at hr2 6 vK rfl)
  have q7 := cell_regrown (row_at hr2 7 vF rfl)
  have p0 := cell_regrown e0
  have p1 := cell_regrown e1
  have cQ0 : ∀ d os, Calls Tryd.prog 40 #[.agg #[.int .i64 64, .int .i64 80, vA, vB, vC, vD, vK, vF], .int .u64 (x : Int), .int .i64 (b0 : Int)] (grow (redrawn w2 d) os) fun e w'' => e = .returned (.int .u64 ((turnN 64 x b0 : Nat) : Int)) ∧ ∃ p : Regrown, w'' = grow (redrawn w2 p.d) p.os :=
    fun d os => Calls.regrown_of (turnH64 vA vB vC vD vK vF x b0 _ hx (by omega))
  have cQ1 : ∀ d os, Calls Tryd.prog 40 #[.agg #[.int .i64 64, .int .i64 80, vA, vB, vC, vD, vK, vF], .int .u64 (x : Int), .int .i64 (b1 : Int)] (grow (redrawn w2 d) os) fun e w'' => e = .returned (.int .u64 ((turnN 64 x b1 : Nat) : Int)) ∧ ∃ p : Regrown, w'' = grow (redrawn w2 p.d) p.os :=
    fun d os => Calls.regrown_of (turnH64 vA vB vC vD vK vF x b1 _ hx (by omega))
  refine wp_region_quiet_below (by kernel_rfl) (by kernel_rfl) ?_
  iterate 5 (go_big_quiet_step (fail))
  go_big_quiet_step (exact cQ0 _ _)
  iterate 5 (go_big_quiet_step (fail))
  go_big_quiet_step (exact cQ1 _ _)
  repeat (go_big_quiet_step (fail))
  refine wpQuiet_nil ?_
  intro w3 hw'
  have hb3 : Below w2.heap.size w2 w3 := by obtain ⟨p, rfl⟩ := hw'; exact below_regrown _ _ _
  have hB3 : Below w.heap.size w w3 := hB2.trans (hb3.mono hB2.size)
  clear hw' q0 q1 q2 q3 q4 q5 q6 q7 p0 p1 cQ0 cQ1
  go_wp2_with fail
  go_ret
  refine ⟨ret_int ?_, hB3⟩
  refine (xor3_64 _ _ _ (Nat.lt_of_lt_of_le (turnN_lt 64 x (by decide) hx _) (by decide)) (Nat.lt_of_lt_of_le (turnN_lt 64 x (by decide) hx _) (by decide)) (Nat.lt_of_lt_of_le (turnN_lt 64 x (by decide) hx _) (by decide))).trans ?_
  rw [turnN_rot 64 x b0 hx h0, turnN_rot 64 x b1 hx h1, turnN_rot 64 x b2 hx h2]
  rfl

theorem mixed64s (vA vB vC vD vK vF : Value) (x g c b0 b1 b2 : Nat) (w : World) (hx : x < 2 ^ 64) (h0 : b0 ≤ 64) (h1 : b1 ≤ 64) (h2 : b2 ≤ 64)
    (k0 : w.cell? ⟨g, 0, none⟩ = some (.int .i64 (b0 : Int))) (k1 : w.cell? ⟨g, 1, none⟩ = some (.int .i64 (b1 : Int))) (k2 : w.cell? ⟨g, 2, none⟩ = some (.int .i64 (b2 : Int))) :
    Calls Tryd.prog 35 #[.agg #[.int .i64 64, .int .i64 80, vA, vB, vC, vD, vK, vF], .int .u64 (x : Int), .slice (some ⟨g, 0, none⟩) 3 c, .bool true] w fun e w' => e = .returned (.int .u64 ((ts 64 x b0 b1 b2 : Nat) : Int)) ∧ Below w.heap.size w w' := by
  have hg : g < w.heap.size := block_lt_of_cell k0
  go_enter Tryd.func35, Tryd.ntmps35
  go_wp2_with fail
  have hB1 := below1 w (.cells #[.int .i64 64, .int .i64 80, vA, vB, vC, vD, vK, vF] 37)
  have hr1 : (w.alloc (.cells #[.int .i64 64, .int .i64 80, vA, vB, vC, vD, vK, vF] 37)).heap[w.heap.size]? = some (.cells #[.int .i64 64, .int .i64 80, vA, vB, vC, vD, vK, vF] 37 (0, 0)) := heap_alloc_new _ _
  have a0 := (hB1.cell (p := ⟨g, 0, none⟩) hg).trans k0
  have a1 := (hB1.cell (p := ⟨g, 1, none⟩) hg).trans k1
  have a2 := (hB1.cell (p := ⟨g, 2, none⟩) hg).trans k2
  obtain ⟨w1, hw1⟩ : ∃ x, x = w.alloc (.cells #[.int .i64 64, .int .i64 80, vA, vB, vC, vD, vK, vF] 37) := ⟨_, rfl⟩
  rw [← hw1] at hB1 hr1 a0 a1 a2 ⊢
  clear hw1 k0 k1 k2
  have q0 := cell_regrown (row_at hr1 0 (.int .i64 64) rfl)
  have q1 := cell_regrown (row_at hr1 1 (.int .i64 80) rfl)
  have q2 := cell_regrown (row_at hr1 2 vA rfl)
  have q3 := cell_regrown (row_at hr1 3 vB rfl)
  have q4 := cell_regrown (row_at hr1 4 vC rfl)
  have q5 := cell_regrown (row_at hr1 5 vD rfl)
  have q6 := cell_regrown (row_at hr1 6 vK rfl)
  have q7 := cell_regrown (row_at hr1 7 vF rfl)
  have p2 := cell_regrown a2
  have cQ : ∀ d os, Calls Tryd.prog 40 #[.agg #[.int .i64 64, .int .i64 80, vA, vB, vC, vD, vK, vF], .int .u64 (x : Int), .int .i64 (b2 : Int)] (grow (redrawn w1 d) os) fun e w'' => e = .returned (.int .u64 ((turnN 64 x b2 : Nat) : Int)) ∧ ∃ p : Regrown, w'' = grow (redrawn w1 p.d) p.os :=
    fun d os => Calls.regrown_of (turnH64 vA vB vC vD vK vF x b2 _ hx (by omega))
  refine wp_region_quiet_below (by kernel_rfl) (by kernel_rfl) ?_
  repeat (go_big_quiet_step (exact cQ _ _))
  refine wpQuiet_nil ?_
  intro w2 hw'
  have hb2 : Below w1.heap.size w1 w2 := by obtain ⟨p, rfl⟩ := hw'; exact below_regrown _ _ _
  have hB2 : Below w.heap.size w w2 := hB1.trans (hb2.mono hB1.size)
  have hr2 := block_below hb2 (lt_of_heap hr1) hr1
  have e0 := (hb2.cell (p := ⟨g, 0, none⟩) (by have := hB1.size; simp; omega)).trans a0
  have e1 := (hb2.cell (p := ⟨g, 1, none⟩) (by have := hB1.size; simp; omega)).trans a1
  have e2 := (hb2.cell (p := ⟨g, 2, none⟩) (by have := hB1.size; simp; omega)).trans a2
  clear hw' q0 q1 q2 q3 q4 q5 q6 q7 p2 cQ a0 a1 a2 hr1 hb2
  go_wp2_with fail
  go_loop [10, 9] (fun i v => ∃ k : Nat, k ≤ b2 ∧ i = .int .i64 (k : Int) ∧ v = .int .u64 ((halfN x k : Nat) : Int)) (fun i _ => b2 - (intOf i).toNat)
  case atStart => exact ⟨0, by omega, rfl, rfl⟩
  case round =>
    obtain ⟨k, hk, rfl, rfl⟩ := hrel
    by_cases hlt : k < b2
    · have HT : Hid (halfN x (k + 1) = halfN x k / 2) := rfl
      have hb : halfN x k < 18446744073709551616 := by rw [halfN_shr]; exact shr_lt (Nat.lt_of_lt_of_le hx (by decide))
      obtain ⟨y, hy⟩ : ∃ y, y = halfN x k := ⟨_, rfl⟩
      rw [← hy] at HT hb ⊢
      clear hy
      go_wp2_with fail
      go_round
      case rel => exact ⟨k + 1, by omega, by go_num, by rw [HT.out]; go_num⟩
      case measure => simp [intOf]; omega
    · obtain rfl : k = b2 := by omega
      go_wp2_with fail
      have q0 := cell_regrown (row_at hr2 0 (.int .i64 64) rfl)
      have q1 := cell_regrown (row_at hr2 1 (.int .i64 80) rfl)
      have q2 := cell_regrown (row_at hr2 2 vA rfl)
      have q3 := cell_regrown (row_at hr2 3 vB rfl)
      have q4 := cell_regrown (row_at hr2 4 vC rfl)
      have q5 := cell_regrown (row_at hr2 5 vD rfl)
      have q6 := cell_regrown (row_at hr2 6 vK rfl)
      have q7 := cell_regrown (row_at hr2 7 vF rfl)
      have p0 := cell_regrown e0
      have p1 := cell_regrown e1
      have cQ0 : ∀ d os, Calls Tryd.prog 40 #[.agg #[.int .i64 64, .int .i64 80, vA, vB, vC, vD, vK, vF], .int .u64 (x : Int), .int .i64 (b0 : Int)] (grow (redrawn w2 d) os) fun e w'' => e = .returned (.int .u64 ((turnN 64 x b0 : Nat) : Int)) ∧ ∃ p : Regrown, w'' = grow (redrawn w2 p.d) p.os :=
        fun d os => Calls.regrown_of (turnH64 vA vB vC vD vK vF x b0 _ hx (by omega))
      have cQ1 : ∀ d os, Calls Tryd.prog 40 #[.agg #[.int .i64 64, .int .i64 80, vA, vB, vC, vD, vK, vF], .int .u64 (x : Int), .int .i64 (b1 : Int)] (grow (redrawn w2 d) os) fun e w'' => e = .returned (.int .u64 ((turnN 64 x b1 : Nat) : Int)) ∧ ∃ p : Regrown, w'' = grow (redrawn w2 p.d) p.os :=
        fun d os => Calls.regrown_of (turnH64 vA vB vC vD vK vF x b1 _ hx (by omega))
      refine wp_region_quiet_below (by kernel_rfl) (by kernel_rfl) ?_
      iterate 5 (go_big_quiet_step (fail))
      go_big_quiet_step (exact cQ0 _ _)
      iterate 5 (go_big_quiet_step (fail))
      go_big_quiet_step (exact cQ1 _ _)
      repeat (go_big_quiet_step (fail))
      refine wpQuiet_nil ?_
      intro w3 hw'
      have hb3 : Below w2.heap.size w2 w3 := by obtain ⟨p, rfl⟩ := hw'; exact below_regrown _ _ _
      have hB3 : Below w.heap.size w w3 := hB2.trans (hb3.mono hB2.size)
      clear hw' q0 q1 q2 q3 q4 q5 q6 q7 p0 p1 cQ0 cQ1
      go_wp2_with fail
      go_ret
      refine ⟨ret_int ?_, hB3⟩
      refine (xor3_64 _ _ _ (Nat.lt_of_lt_of_le (turnN_lt 64 x (by decide) hx _) (by decide)) (Nat.lt_of_lt_of_le (turnN_lt 64 x (by decide) hx _) (by decide)) (by rw [halfN_shr]; exact shr_lt (Nat.lt_of_lt_of_le hx (by decide)))).trans ?_
      rw [turnN_rot 64 x b0 hx h0, turnN_rot 64 x b1 hx h1, halfN_shr]
      rfl
end Go.Proofs.YtomfnkbghlpkeaaDoor
