/-
  The law's lives.
-/
import Derived.Test.YtghmcaliahjdhaaR9
import Derived.Test.YtghmcaliahjdhaaPrime
set_option linter.unusedVariables false
namespace Go.Proofs.Ytghmcaliahjdhaa
open Go.RowKit Go.Sort Go.BigFrame
set_option maxRecDepth 100000
set_option maxHeartbeats 2000000
theorem run_load5 {ρ : Operand → Value} {o : Oper} (x : Operand) {ad : Addr} {v : Value} {w : World} (ho : o.op = .load 5 x) (hx : ρ x = .pointer (some ad)) (hc : w.cell? ad = some v) : (execOp ρ o).run Try.prog w = .ok (.value v) w := by
  simp [execOp, ho, hx, go_sem, hc]
theorem int1_val : (intE 1).val % pp = 1 := by decide
theorem int0_val : (intE 0).val % pp = 0 := by decide
theorem intm1_val : (intE (-1)).val % pp = pp - 1 := by decide
theorem int2_val : (intE 2).val = 2 := by decide
theorem two_inv : ∀ X, X + 1 = pp - 1 → 2 * 2 ^ X % pp = 1 := fun X hX => pp_inv hX (by decide)
theorem one_val {r : E5} {X : Nat} (hX : X + 1 = pp - 1) (hr : r.val % pp = (intE 2).val ^ X % pp) : (mulE r (intE 2)).val % pp = 1 := by
  rw [mulE_mod, Nat.mul_mod, hr, ← Nat.mul_mod, int2_val, Nat.mul_comm]
  exact two_inv X hX
theorem lives14 (w : World) : Calls Try.prog 14 #[] w fun e w' => e = .returned (.bool true) ∧ Below w.heap.size w w' := by
  have c0 := fun w1 => int17 (-1) w1 (by decide) (by decide)
  have c1 := fun w1 => bytes15 (intE (-1)) w1 (intE_wf (by decide) (by decide))
  rw [intm1_val] at c1
  have hA0 : Hid ((digs 32 (pp - 1)).getD 0 0 = 236) := by show _ = _; decide
  have hA31 : Hid ((digs 32 (pp - 1)).getD 31 0 = 127) := by show _ = _; decide
  obtain ⟨A, hA⟩ : ∃ A, A = digs 32 (pp - 1) := ⟨_, rfl⟩
  have hAl : Hid (A.length = 32) := by show _ = _; rw [hA, digs_len]
  rw [← hA] at c1 hA0 hA31
  clear hA
  obtain ⟨m1, hm1⟩ : ∃ m, m = elc (intE (-1)) := ⟨_, rfl⟩
  rw [← hm1] at c0 c1
  clear hm1
  have c2 := fun w1 => int17 2 w1 (by decide) (by decide)
  have c3 := fun w1 => inv28 (intE 2) w1 (intE_wf (by decide) (by decide))
  obtain ⟨X, hX⟩ : ∃ X, X = 57896044618658097711785492504343953926634992332820282019728792003956564819947 := ⟨_, rfl⟩
  rw [← hX] at c3
  have HX : Hid (X + 1 = pp - 1) := by show _ = _; rw [hX]; decide
  clear hX
  have c4 := fun r w1 (hr : r.wf) => mul24 r (intE 2) w1 hr (intE_wf (by decide) (by decide))
  have hone : Hid (∀ r : E5, r.val % pp = (intE 2).val ^ X % pp → (mulE r (intE 2)).val % pp = 1) := fun r hr => one_val HX.out hr
  have hwf : Hid (∀ r : E5, r.wf → (mulE r (intE 2)).wf) := fun r hr => mulE_wf hr (intE_wf (by decide) (by decide))
  obtain ⟨e2, he2⟩ : ∃ m, m = intE 2 := ⟨_, rfl⟩
  rw [← he2] at c2 c3 c4 hone hwf
  clear he2
  have c5 := fun w1 => int17 1 w1 (by decide) (by decide)
  have c6 := fun w1 => int17 0 w1 (by decide) (by decide)
  have q1 := fun o w1 (ho : o.wf) => equal13 o (intE 1) w1 ho (intE_wf (by decide) (by decide))
  have q0 := fun o w1 (ho : o.wf) => equal13 o (intE 0) w1 ho (intE_wf (by decide) (by decide))
  rw [int1_val] at q1
  rw [int0_val] at q0
  obtain ⟨e1, he1⟩ : ∃ m, m = elc (intE 1) := ⟨_, rfl⟩
  obtain ⟨e0, he0⟩ : ∃ m, m = elc (intE 0) := ⟨_, rfl⟩
  rw [← he1] at c5 q1
  rw [← he0] at c6 q0
  clear he1 he0
  go_enter Try.func14, Try.ntmps14
  go_wp2_with fail
  refine (c0 _).mono ?_
  rintro e w1 ⟨rfl, hb1⟩
  go_wp2_with fail
  refine (c1 _).mono ?_
  rintro e w2 ⟨g, rfl, hg2, hb2, hh2⟩
  have hB2 := hb1.trans (hb2.mono hb1.size)
  clear hb1 hb2 c0 c1
  go_wp2_with fail
  refine (c2 _).mono ?_
  rintro e w3 ⟨rfl, hb3⟩
  have hB3 := hB2.trans (hb3.mono hB2.size)
  have hh3 := block_below hb3 (lt_of_heap hh2) hh2
  clear hb3 hB2 hh2
  go_wp2_with fail
  refine (c3 _).mono ?_
  rintro e w4 ⟨r, hr, hre, rfl, hb4⟩
  have HRE : Hid (r.val % pp = e2.val ^ X % pp) := hre
  have hB4 := hB3.trans (hb4.mono hB3.size)
  have hh4 := block_below hb4 (lt_of_heap hh3) hh3
  clear hb4 hB3 hh3 hre
  go_wp2_with fail
  refine (c2 _).mono ?_
  rintro e w5 ⟨rfl, hb5⟩
  have hB5 := hB4.trans (hb5.mono hB4.size)
  have hh5 := block_below hb5 (lt_of_heap hh4) hh4
  clear hb5 hB4 hh4 c2 c3
  go_wp2_with fail
  refine (c4 r _ hr).mono ?_
  rintro e w6 ⟨rfl, hb6⟩
  have hB6 := hB5.trans (hb6.mono hB5.size)
  have hh6 := block_below hb6 (lt_of_heap hh5) hh5
  have hwo := hwf.out r hr
  have hvo := hone.out r HRE.out
  clear hb6 hB5 hh5 c4
  obtain ⟨one, ho⟩ : ∃ o, o = mulE r e2 := ⟨_, rfl⟩
  rw [← ho] at hwo hvo ⊢
  clear ho
  have Q1 := fun w1 => q1 one w1 hwo
  have Q0 := fun w1 => q0 one w1 hwo
  rw [hvo] at Q1 Q0
  simp only [decide_true] at Q1
  rw [show decide (1 = 0) = false from rfl] at Q0
  clear q1 q0 hvo hone hwf HRE
  have hal : (w6.alloc (.cells #[.int .u64 0, .int .u64 0, .int .u64 0, .int .u64 0, .int .u64 0] 26)).heap[w6.heap.size]? = some (.cells #[.int .u64 0, .int .u64 0, .int .u64 0, .int .u64 0, .int .u64 0] 26 (0, 0)) := heap_alloc_new _ _
  go_wp2_with (refine wpList_store_row rfl 26 (.tmp 2) (.tmp 8) rfl _ (elc one) rfl rfl 26 _ hal info26 rfl (elc_one _) ?_)
  have hB7 : Below w.heap.size w ((w6.alloc (.cells #[.int .u64 0, .int .u64 0, .int .u64 0, .int .u64 0, .int .u64 0] 26)).setRow w6.heap.size (elc one)) := setRow_below (hB6.alloc hB6.size _) hB6.size _
  have ho7 : ((w6.alloc (.cells #[.int .u64 0, .int .u64 0, .int .u64 0, .int .u64 0, .int .u64 0] 26)).setRow w6.heap.size (elc one)).heap[w6.heap.size]? = some (.cells (elc one) 26 (0, 0)) := setRow_heap _ _ _ _ _ _ hal
  have hh7 : ((w6.alloc (.cells #[.int .u64 0, .int .u64 0, .int .u64 0, .int .u64 0, .int .u64 0] 26)).setRow w6.heap.size (elc one)).heap[g]? = some (.cells (ints .u8 A) 5 (0, 0)) := (setRow_other _ _ _ _ (by have := lt_of_heap hh6; omega)).trans ((heap_alloc_old _ _ (lt_of_heap hh6)).trans hh6)
  generalize ((w6.alloc (.cells #[.int .u64 0, .int .u64 0, .int .u64 0, .int .u64 0, .int .u64 0] 26)).setRow w6.heap.size (elc one)) = u at hB7 ho7 hh7 ⊢
  generalize w6.heap.size = go at ho7 ⊢
  clear hal hh6 hB6
  have k0 : ∀ w1, Cls u w1 → w1.cell? ⟨g, 0, none⟩ = some (.int .u8 236) := fun w1 hw => by
    have := cell_ints (hw.heap hh7) 0 (by rw [hAl.out]; decide)
    rw [hA0.out] at this
    exact this
  have k31 : ∀ w1, Cls u w1 → w1.cell? ⟨g, 31, none⟩ = some (.int .u8 127) := fun w1 hw => by
    have := cell_ints (hw.heap hh7) 31 (by rw [hAl.out]; decide)
    rw [hA31.out] at this
    exact this
  refine wp_region_quiet_below (by kernel_rfl) (by kernel_rfl) ?_
  show wpQuiet _ _ (Cls u) (fun a' => ∀ w', Cls u w' → _) _ _
  refine wpQuiet_run (some 9) (.slice (some ⟨g, 0, none⟩) 32 32) rfl (by kernel_rfl) (fun w1 _ => run_move (.tmp 1) rfl w1) ?_
  simp only [Act.put, List.setIfInBounds_toArray, List.set_cons_succ, List.set_cons_zero]
  refine wpQuiet_run (some 10) (.int .i64 32) rfl (by kernel_rfl) (fun _ _ => by kernel_rfl) ?_
  simp only [Act.put, List.setIfInBounds_toArray, List.set_cons_succ, List.set_cons_zero]
  refine wpQuiet_run (some 11) (.bool true) rfl (by kernel_rfl) (fun _ _ => by kernel_rfl) ?_
  simp only [Act.put, List.setIfInBounds_toArray, List.set_cons_succ, List.set_cons_zero]
  refine wpQuiet_run (some 12) (.bool true) rfl (by kernel_rfl) (fun w1 _ => run_move (.tmp 11) rfl w1) ?_
  simp only [Act.put, List.setIfInBounds_toArray, List.set_cons_succ, List.set_cons_zero]
  refine wpQuiet_run (some 13) (.slice (some ⟨g, 0, none⟩) 32 32) rfl (by kernel_rfl) (fun w1 _ => run_move (.tmp 1) rfl w1) ?_
  simp only [Act.put, List.setIfInBounds_toArray, List.set_cons_succ, List.set_cons_zero]
  refine wpQuiet_run (some 14) (.pointer (some ⟨g, 0, none⟩)) rfl (by kernel_rfl) (fun _ _ => by kernel_rfl) ?_
  simp only [Act.put, List.setIfInBounds_toArray, List.set_cons_succ, List.set_cons_zero]
  refine wpQuiet_run (some 15) (.int .u8 236) rfl (by kernel_rfl) (fun w1 hw => run_load5 (.tmp 14) rfl rfl (k0 w1 hw)) ?_
  simp only [Act.put, List.setIfInBounds_toArray, List.set_cons_succ, List.set_cons_zero]
  refine wpQuiet_run (some 16) (.bool true) rfl (by kernel_rfl) (fun _ _ => by kernel_rfl) ?_
  simp only [Act.put, List.setIfInBounds_toArray, List.set_cons_succ, List.set_cons_zero]
  refine wpQuiet_run (some 17) (.bool true) rfl (by kernel_rfl) (fun _ _ => by kernel_rfl) ?_
  simp only [Act.put, List.setIfInBounds_toArray, List.set_cons_succ, List.set_cons_zero]
  refine wpQuiet_run (some 18) (.bool true) rfl (by kernel_rfl) (fun w1 _ => run_move (.tmp 17) rfl w1) ?_
  simp only [Act.put, List.setIfInBounds_toArray, List.set_cons_succ, List.set_cons_zero]
  refine wpQuiet_run (some 19) (.slice (some ⟨g, 0, none⟩) 32 32) rfl (by kernel_rfl) (fun w1 _ => run_move (.tmp 1) rfl w1) ?_
  simp only [Act.put, List.setIfInBounds_toArray, List.set_cons_succ, List.set_cons_zero]
  refine wpQuiet_run (some 20) (.pointer (some ⟨g, 31, none⟩)) rfl (by kernel_rfl) (fun _ _ => by kernel_rfl) ?_
  simp only [Act.put, List.setIfInBounds_toArray, List.set_cons_succ, List.set_cons_zero]
  refine wpQuiet_run (some 21) (.int .u8 127) rfl (by kernel_rfl) (fun w1 hw => run_load5 (.tmp 20) rfl rfl (k31 w1 hw)) ?_
  simp only [Act.put, List.setIfInBounds_toArray, List.set_cons_succ, List.set_cons_zero]
  refine wpQuiet_run (some 22) (.bool true) rfl (by kernel_rfl) (fun _ _ => by kernel_rfl) ?_
  simp only [Act.put, List.setIfInBounds_toArray, List.set_cons_succ, List.set_cons_zero]
  refine wpQuiet_run (some 23) (.bool true) rfl (by kernel_rfl) (fun _ _ => by kernel_rfl) ?_
  simp only [Act.put, List.setIfInBounds_toArray, List.set_cons_succ, List.set_cons_zero]
  refine wpQuiet_run (some 24) (.bool true) rfl (by kernel_rfl) (fun w1 _ => run_move (.tmp 23) rfl w1) ?_
  simp only [Act.put, List.setIfInBounds_toArray, List.set_cons_succ, List.set_cons_zero]
  refine wpQuiet_load_row (some 25) rfl (by kernel_rfl) 26 (.tmp 2) rfl _ rfl 26 (elc one) (0, 0) _ (fun _ hw => hw.heap ho7) Try.underlying26 rfl info26 ?_
  simp only [Act.put, List.setIfInBounds_toArray, List.set_cons_succ, List.set_cons_zero]
  refine wpQuiet_call (some 26) (.agg e1) 17 #[.int .i64 1] rfl (by kernel_rfl) (fun _ => by kernel_rfl) (fun w1 hw => cls_call hw (c5 w1)) ?_
  simp only [Act.put, List.setIfInBounds_toArray, List.set_cons_succ, List.set_cons_zero]
  refine wpQuiet_call (some 27) (.bool true) 13 #[.agg (elc one), .agg e1] rfl (by kernel_rfl) (fun _ => by kernel_rfl) (fun w1 hw => cls_call hw (Q1 w1)) ?_
  simp only [Act.put, List.setIfInBounds_toArray, List.set_cons_succ, List.set_cons_zero]
  refine wpQuiet_run (some 28) (.bool true) rfl (by kernel_rfl) (fun _ _ => by kernel_rfl) ?_
  simp only [Act.put, List.setIfInBounds_toArray, List.set_cons_succ, List.set_cons_zero]
  refine wpQuiet_run (some 29) (.bool true) rfl (by kernel_rfl) (fun w1 _ => run_move (.tmp 28) rfl w1) ?_
  simp only [Act.put, List.setIfInBounds_toArray, List.set_cons_succ, List.set_cons_zero]
  refine wpQuiet_load_row (some 30) rfl (by kernel_rfl) 26 (.tmp 2) rfl _ rfl 26 (elc one) (0, 0) _ (fun _ hw => hw.heap ho7) Try.underlying26 rfl info26 ?_
  simp only [Act.put, List.setIfInBounds_toArray, List.set_cons_succ, List.set_cons_zero]
  refine wpQuiet_call (some 31) (.agg e0) 17 #[.int .i64 0] rfl (by kernel_rfl) (fun _ => by kernel_rfl) (fun w1 hw => cls_call hw (c6 w1)) ?_
  simp only [Act.put, List.setIfInBounds_toArray, List.set_cons_succ, List.set_cons_zero]
  refine wpQuiet_call (some 32) (.bool false) 13 #[.agg (elc one), .agg e0] rfl (by kernel_rfl) (fun _ => by kernel_rfl) (fun w1 hw => cls_call hw (Q0 w1)) ?_
  simp only [Act.put, List.setIfInBounds_toArray, List.set_cons_succ, List.set_cons_zero]
  refine wpQuiet_run (some 33) (.bool true) rfl (by kernel_rfl) (fun _ _ => by kernel_rfl) ?_
  simp only [Act.put, List.setIfInBounds_toArray, List.set_cons_succ, List.set_cons_zero]
  refine wpQuiet_run (some 34) (.bool true) rfl (by kernel_rfl) (fun _ _ => by kernel_rfl) ?_
  simp only [Act.put, List.setIfInBounds_toArray, List.set_cons_succ, List.set_cons_zero]
  refine wpQuiet_run (some 0) (.bool true) rfl (by kernel_rfl) (fun w1 _ => run_assignO (.tmp 34) rfl w1) ?_
  simp only [Act.put, List.setIfInBounds_toArray, List.set_cons_zero]
  refine wpQuiet_nil ?_
  intro w1 hw
  go_wp2
  go_ret
  exact ⟨rfl, hB7.trans (hw.below.mono hB7.size)⟩
end Go.Proofs.Ytghmcaliahjdhaa
