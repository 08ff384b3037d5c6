/-
  The walk of Inv.
-/
import Derived.Test.YtpfcboakafbnlaaDoorP
set_option linter.unusedVariables false
namespace Go.Proofs.YtpfcboakafbnlaaDoor
open Go.RowKit Go.Sort Go.BigFrame
set_option maxRecDepth 100000
set_option maxHeartbeats 2000000
theorem strengthen {P : Program} {md : Region.Mode} {ops : Array Oper} {Q : Exit → Act → World → Prop} {S S' : World → Prop} (hS : ∀ w, S' w → S w) : ∀ (n : Nat) (listed : Array Bool) (a : Act) (w : World), wpAnyH P md ops Q S' n listed a w → wpAnyH P md ops Q S n listed a w
  | 0, _, _, _, h => h
  | n + 1, _, _, _, h => ⟨h.1, fun i hi => wpOp_mono (fun a' w' h' => ⟨hS _ h'.1, strengthen hS n _ a' w' h'.2⟩) (h.2 i hi)⟩
theorem exp_val : (intE (-2)).val % pp = 57896044618658097711785492504343953926634992332820282019728792003956564819947 := by decide
theorem inv28 (a : E5) (w : World) (ha : a.wf) :
    Calls Tryd.prog 38 #[.agg (elc a)] w fun e w' => ∃ r : E5, r.wf ∧ r.val % pp = a.val ^ 57896044618658097711785492504343953926634992332820282019728792003956564819947 % pp ∧ e = .returned (.agg (elc r)) ∧ Below w.heap.size w w' := by
  have c1 := fun w1 => int17 (-2) w1 (by decide) (by decide)
  have c2 := fun w1 => bytes15 (intE (-2)) w1 (intE_wf (by decide) (by decide))
  rw [exp_val] at c2
  obtain ⟨X, hX⟩ : ∃ X, X = 57896044618658097711785492504343953926634992332820282019728792003956564819947 := ⟨_, rfl⟩
  have hXl : X < 256 ^ 32 := by rw [hX]; decide
  rw [← hX] at c2 ⊢
  have hvX : valD (digs 32 X) = X := valD_digs_lt hXl
  clear hX hXl
  obtain ⟨m2, hm2⟩ : ∃ m, m = elc (intE (-2)) := ⟨_, rfl⟩
  rw [← hm2] at c1 c2
  clear hm2
  have c3 := fun w1 g (h : w1.heap[g]? = some (.cells (ints .u8 (digs 32 X)) 5 (0, 0))) => pow30 a (some ⟨g, 0, none⟩) 32 32 (digs 32 X) w1 ha (digs_len _ _) (by omega) (by omega) (by omega) (digs_dig _ _) (fun _ => ⟨g, 0, rfl, bytes_row h⟩)
  rw [hvX] at c3
  have HVX : Hid (valD (digs 32 X) = X) := hvX
  clear hvX
  obtain ⟨va, hva⟩ : ∃ l, l = elc a := ⟨_, rfl⟩
  have hsa : va.size = 5 := by rw [hva]; rfl
  rw [← hva] at c3 ⊢
  clear hva
  go_enter Tryd.func38, Tryd.ntmps38
  go_wp2_with fail
  have hx : (((w.alloc (.cells va 27)).alloc (.cells #[.int .u64 0, .int .u64 0, .int .u64 0, .int .u64 0, .int .u64 0] 27))).heap[w.heap.size]? = some (.cells va 27 (0, 0)) := heap2_0 _ _ _
  have hz : (((w.alloc (.cells va 27)).alloc (.cells #[.int .u64 0, .int .u64 0, .int .u64 0, .int .u64 0, .int .u64 0] 27))).heap[w.heap.size + 1]? = some (.cells z5 27 (0, 0)) := heap_alloc2_new _ _ _
  have hB : Below w.heap.size w ((w.alloc (.cells va 27)).alloc (.cells #[.int .u64 0, .int .u64 0, .int .u64 0, .int .u64 0, .int .u64 0] 27)) := below2 _ _ _
  generalize ((w.alloc (.cells va 27)).alloc (.cells #[.int .u64 0, .int .u64 0, .int .u64 0, .int .u64 0, .int .u64 0] 27)) = u at hx hz hB ⊢
  have hS0 : Below w.heap.size w u.drew ∧ u.drew.heap[w.heap.size]? = some (.cells va 27 (0, 0)) := ⟨hB.drew, hx⟩
  refine wp_region_held (S := fun w' => Below w.heap.size w w' ∧ w'.heap[w.heap.size]? = some (.cells va 27 (0, 0))) (by kernel_rfl) ?_
  show wpAnyH _ _ _ _ _ 5 (Array.replicate 5 false) _ u.drew
  refine take_at (i := 0) (some 3) _ rfl rfl (by kernel_rfl) (by kernel_rfl) (by kernel_rfl) (fun _ _ _ h => h) (yields_load_row rfl 27 (.tmp 1) rfl _ rfl 27 va (0, 0) _ (fun _ h => h.2) Tryd.underlying27 rfl (by rw [hsa]; exact info26)) hS0 ?_
  simp only [Act.put, List.setIfInBounds_toArray, List.set_cons_succ, List.set_cons_zero]
  refine one_at (i := 1) (by kernel_rfl) ?_
  refine call_at (some 4) rfl rfl rfl 53 #[.int .i64 (-2)] (R := fun v w' => v = .agg m2 ∧ Below u.drew.heap.size u.drew w') (by kernel_rfl) ((c1 u.drew).mono fun e w' h => ⟨_, h.1, rfl, h.2⟩) ?_
  rintro v1 w1 ⟨rfl, hb1⟩
  have hS1 : Below w.heap.size w w1 ∧ w1.heap[w.heap.size]? = some (.cells va 27 (0, 0)) := ⟨hS0.1.trans (hb1.mono hS0.1.size), block_below hb1 (lt_of_heap hS0.2) hS0.2⟩
  have hz1 : w1.heap[w.heap.size + 1]? = some (.cells z5 27 (0, 0)) := block_below hb1 (lt_of_heap (w := u.drew) hz) hz
  clear hb1 hS0 hz hx hB
  refine ⟨hS1, ?_⟩
  simp only [Act.put, List.setIfInBounds_toArray, List.set_cons_succ, List.set_cons_zero]
  refine one_at (i := 2) (by kernel_rfl) ?_
  refine call_at (some 5) rfl rfl rfl 40 #[.agg m2] (R := fun v w' => ∃ g, v = .slice (some ⟨g, 0, none⟩) 32 32 ∧ Below w1.heap.size w1 w' ∧ w'.heap[g]? = some (.cells (ints .u8 (digs 32 X)) 5 (0, 0))) (by kernel_rfl) ((c2 w1).mono fun e w' ⟨g, h1, _, h2, h3⟩ => ⟨_, h1, g, rfl, h2, h3⟩) ?_
  rintro v2 w2 ⟨g, rfl, hb2, hg2⟩
  have hS2 : Below w.heap.size w w2 ∧ w2.heap[w.heap.size]? = some (.cells va 27 (0, 0)) := ⟨hS1.1.trans (hb2.mono hS1.1.size), block_below hb2 (lt_of_heap hS1.2) hS1.2⟩
  have hz2 : w2.heap[w.heap.size + 1]? = some (.cells z5 27 (0, 0)) := block_below hb2 (lt_of_heap hz1) hz1
  clear hb2 hS1 hz1
  refine ⟨hS2, ?_⟩
  simp only [Act.put, List.setIfInBounds_toArray, List.set_cons_succ, List.set_cons_zero]
  refine one_at (i := 3) (by kernel_rfl) ?_
  refine call_at (some 6) rfl rfl rfl 61 #[.agg va, .slice (some ⟨g, 0, none⟩) 32 32] (R := fun v w' => ∃ r : E5, r.wf ∧ r.val % pp = a.val ^ X % pp ∧ v = .agg (elc r) ∧ Below w2.heap.size w2 w') (by kernel_rfl) ((c3 w2 g hg2).mono fun e w' ⟨r, h1, h2, h3, h4⟩ => ⟨_, h3, r, h1, h2, rfl, h4⟩) ?_
  rintro v3 w3 ⟨r, hr, hre, rfl, hb3⟩
  have HRE : Hid (r.val % pp = a.val ^ X % pp) := hre
  have hS3 : Below w.heap.size w w3 ∧ w3.heap[w.heap.size]? = some (.cells va 27 (0, 0)) := ⟨hS2.1.trans (hb3.mono hS2.1.size), block_below hb3 (lt_of_heap hS2.2) hS2.2⟩
  have hz3 : w3.heap[w.heap.size + 1]? = some (.cells z5 27 (0, 0)) := block_below hb3 (lt_of_heap hz2) hz2
  clear hb3 hS2 hz2 hre
  refine ⟨hS3, ?_⟩
  simp only [Act.put, List.setIfInBounds_toArray, List.set_cons_succ, List.set_cons_zero]
  refine one_at (i := 4) (by kernel_rfl) ?_
  refine store_at rfl rfl rfl 27 (.tmp 2) (.tmp 6) rfl _ (elc r) rfl rfl 27 _ hz3 info26 rfl (elc_one _) ?_
  refine ⟨⟨setRow_below hS3.1 (by omega) _, (setRow_other _ _ _ _ (by omega)).trans hS3.2⟩, wpAnyH_done (by kernel_rfl) ?_ _⟩
  go_wp2
  refine bodyPost_ret (v := .agg (elc r)) ?_ rfl ⟨r, hr, HRE.out, rfl, setRow_below hS3.1 (by omega) _⟩
  exact results_cell_row Tryd.results38 _ _ _ 27 _ (0, 0) _ rfl (setRow_heap _ _ _ _ _ _ hz3) Tryd.underlying27 rfl info26
end Go.Proofs.YtpfcboakafbnlaaDoor
