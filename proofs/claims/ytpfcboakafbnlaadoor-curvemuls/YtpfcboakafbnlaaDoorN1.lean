/-
  negative, ofPair.
-/
import Derived.Test.YtpfcboakafbnlaaDoorK
set_option linter.unusedVariables false
namespace Go.Proofs.YtpfcboakafbnlaaDoor
open Go.RowKit Go.Sort Go.BigFrame
set_option maxRecDepth 100000
set_option maxHeartbeats 2000000
theorem use {R : Value → World → Prop} {a v : Value} {w : World} (h : a = v) (hv : R v w) : R a w := by subst h; exact hv
section
variable {ρ : Operand → Value} {o : Oper} {x y z t : Operand} {w : World}
theorem dBox27 {lo : Nat} {e : E5} (hlo : lo ≤ w.heap.size) (ho : o.op = .box 27 x) (hx : ρ x = .agg (elc e)) (_ : True) : Does Tryd.prog o ρ w (fun v w' => Below w.heap.size w w' ∧ Box lo (elc e) 27 v w') :=
  Does.new _ (.cells (elc e) 27) (by simp only [execOp, ho, hx]; kernel_rfl) ⟨_, rfl, hlo, heap_alloc_new _ _⟩
theorem dBox29 {lo : Nat} {cs : Array Value} {X Y Z T : Fe} (hlo : lo ≤ w.heap.size) (ho : o.op = .box 29 x) (hx : ρ x = .agg cs) (hc : Cells4 cs X Y Z T) : Does Tryd.prog o ρ w (fun v w' => Below w.heap.size w w' ∧ Box lo cs 29 v w') := by
  obtain ⟨e1, e2, e3, e4, _, _, _, _, rfl, _⟩ := hc
  exact Does.new _ (.cells (ptc e1 e2 e3 e4) 29) (by simp only [execOp, ho, hx]; kernel_rfl) ⟨_, rfl, hlo, heap_alloc_new _ _⟩
end
theorem wpList_assign {P : Program} {ops : Array Oper} {Q : Exit → Act → World → Prop} {o : Oper} {rest : List Oper} {a : Act} {w : World} {x : Operand} {d : Nat} (hg : o.guard = none) (ho : o.op = .assign x) (hd : o.dst = some d)
    (h : wpList P ops Q rest (a.put (some d) (a.eval x)) w) : wpList P ops Q (o :: rest) a w :=
  wpList_plain hg fun _ hK => by
    unfold Oper.wp
    rw [run_assignO x ho w, Oper.upon_value, hd]
    exact hK _ _ h
theorem elem_of {w0 : World} {e : E5} {X : Fe} (h : e.wf) (hX : fe e.val = X) : El X (.agg (elc e)) w0 := ⟨e, h, rfl, hX⟩
theorem cNegEl {x : Fe} {v : Value} (w w0 : World) (h : El x v w0) : Ret 33 #[v] w (El (0 - (x))) := by
  obtain ⟨e, he, rfl, hx⟩ := h
  unfold Ret
  have hO0 : Below w.heap.size w w := Below.refl _ _
  go_enter Tryd.func33, Tryd.ntmps33
  refine wp_seq_k fun K1 hK1 => ?_
  refine wp_plain_inv 2 (specs [Box w.heap.size (elc e) 27, Box w.heap.size (elc zeroE) 27]) (specs_stb ⟨Box.stb _ _ _, Box.stb _ _ _, trivial⟩) (by kernel_rfl) ?_ ?_
  · refine ⟨fun a w hB hfr hdep => Step.plain rfl (dBox27 hB.size rfl (hfr 0 (by kernel_rfl)) trivial),
      fun a w hB hfr hdep => Step.plain rfl (dAlloc27 hB.size rfl), trivial⟩
  intro u1 hb1
  simp only [List.take, List.drop, FinAll, Act.put, List.setIfInBounds_toArray, List.set_cons_succ, List.set_cons_zero]
  rintro _ ⟨g1_1, rfl, l1_1, m1_1⟩ _ ⟨g2_1, rfl, l2_1, m2_1⟩
  have hO1 := (hO0).trans (hb1.mono (hO0).size)
  have lwm1_1 := Nat.le_trans (hO0).size l1_1
  have lwm2_1 := Nat.le_trans (hO0).size l2_1
  refine hK1 _ _ ?_
  clear hK1 K1
  refine wp_seq_k fun K2 hK2 => ?_
  refine wp_region_inv 3 (specs [El (0), El (x), El ((0) - (x))]) (by kernel_rfl) (specs_stb ⟨El.stb _, El.stb _, El.stb _, trivial⟩) (by kernel_rfl) ?_ ?_
  · refine ⟨fun a w hB hfr hdep => Step.plain rfl (Does.call 53 #[.int .i64 0] (by kernel_rfl) (cInt0 w)),
      fun a w hB hfr hdep => Step.plain rfl (dLoadEl he hx (block_below hB (lt_of_heap m1_1) m1_1) rfl (hfr 1 (by kernel_rfl)) (fun _ h => h)),
      fun a w hB hfr hdep => Step.plain rfl (Does.call 58 #[(a.eval (.tmp 3)), (a.eval (.tmp 4))] (by kernel_rfl) (cSub w w w (hdep 0 3 (by kernel_rfl)) (hdep 1 4 (by kernel_rfl)))), trivial⟩
  intro u2 hb2
  simp only [List.take, List.drop, FinAll, Act.put, List.setIfInBounds_toArray, List.set_cons_succ, List.set_cons_zero]
  rintro v3_2 h3_2 v4_2 h4_2 _ ⟨e5_2, q5_2, rfl, x5_2⟩
  have om2_1 := block_below hb2 (lt_of_heap m2_1) m2_1
  refine wpList_store_row rfl 27 (.tmp 2) (.tmp 5) rfl _ (elc e5_2) rfl rfl 27 _ om2_1 info26 rfl (elc_one _) ?_
  have n2_2 := setRow_heap _ _ _ (elc e5_2) _ _ om2_1
  have hO2 := setRow_below (hO1.trans (hb2.mono (hO1).size)) lwm2_1 (elc e5_2)
  refine hK2 _ _ ?_
  clear hK2 K2
  refine wp_ret ?_
  refine bodyPost_ret (v := .agg (elc e5_2)) ?_ rfl ⟨_, rfl, hO2, ⟨_, q5_2, rfl, x5_2⟩⟩
  exact results_cell_row Tryd.results33 _ _ _ 27 _ (0, 0) _ rfl n2_2 Tryd.underlying27 rfl (by first | exact info26 | exact info29 | exact info35 | (rw [(Pt4.cells (by assumption)).1]; exact info29) | (rw [cellsP_size (by assumption)]; exact info29))
theorem cOfPair {x y : Fe} {v1 v2 : Value} (w w0 w1 : World) (h : El x v1 w0) (h' : El y v2 w1) : Ret 34 #[v1, v2] w (Pt4 (x) (y) 1 ((x) * (y))) := by
  obtain ⟨e, he, rfl, hx⟩ := h
  obtain ⟨d, hd, rfl, hy⟩ := h'
  unfold Ret
  have hO0 : Below w.heap.size w w := Below.refl _ _
  go_enter Tryd.func34, Tryd.ntmps34
  refine wp_seq_k fun K1 hK1 => ?_
  refine wp_plain_inv 3 (specs [Box w.heap.size (elc e) 27, Box w.heap.size (elc d) 27, Box w.heap.size (ptc zeroE zeroE zeroE zeroE) 29]) (specs_stb ⟨Box.stb _ _ _, Box.stb _ _ _, Box.stb _ _ _, trivial⟩) (by kernel_rfl) ?_ ?_
  · refine ⟨fun a w hB hfr hdep => Step.plain rfl (dBox27 hB.size rfl (hfr 0 (by kernel_rfl)) trivial),
      fun a w hB hfr hdep => Step.plain rfl (dBox27 hB.size rfl (hfr 1 (by kernel_rfl)) trivial),
      fun a w hB hfr hdep => Step.plain rfl (dAlloc29 hB.size rfl), trivial⟩
  intro u1 hb1
  simp only [List.take, List.drop, FinAll, Act.put, List.setIfInBounds_toArray, List.set_cons_succ, List.set_cons_zero]
  rintro _ ⟨g2_1, rfl, l2_1, m2_1⟩ _ ⟨g3_1, rfl, l3_1, m3_1⟩ _ ⟨g4_1, rfl, l4_1, m4_1⟩
  have hO1 := (hO0).trans (hb1.mono (hO0).size)
  have lwm2_1 := Nat.le_trans (hO0).size l2_1
  have lwm3_1 := Nat.le_trans (hO0).size l3_1
  have lwm4_1 := Nat.le_trans (hO0).size l4_1
  refine hK1 _ _ ?_
  clear hK1 K1
  refine wp_seq_k fun K2 hK2 => ?_
  refine wp_region_inv 7 (specs [El (x), El (y), El (1), El (x), El (y), El ((x) * (y)), Pt4 (x) (y) (1) ((x) * (y))]) (by kernel_rfl) (specs_stb ⟨El.stb _, El.stb _, El.stb _, El.stb _, El.stb _, El.stb _, Pt4.stb _ _ _ _, trivial⟩) (by kernel_rfl) ?_ ?_
  · refine ⟨fun a w hB hfr hdep => Step.plain rfl (dLoadEl he hx (block_below hB (lt_of_heap m2_1) m2_1) rfl (hfr 2 (by kernel_rfl)) (fun _ h => h)),
      fun a w hB hfr hdep => Step.plain rfl (dLoadEl hd hy (block_below hB (lt_of_heap m3_1) m3_1) rfl (hfr 3 (by kernel_rfl)) (fun _ h => h)),
      fun a w hB hfr hdep => Step.plain rfl (Does.call 53 #[.int .i64 1] (by kernel_rfl) (cInt1 w)),
      fun a w hB hfr hdep => Step.plain rfl (dLoadEl he hx (block_below hB (lt_of_heap m2_1) m2_1) rfl (hfr 2 (by kernel_rfl)) (fun _ h => h)),
      fun a w hB hfr hdep => Step.plain rfl (dLoadEl hd hy (block_below hB (lt_of_heap m3_1) m3_1) rfl (hfr 3 (by kernel_rfl)) (fun _ h => h)),
      fun a w hB hfr hdep => Step.plain rfl (Does.call 39 #[(a.eval (.tmp 8)), (a.eval (.tmp 9))] (by kernel_rfl) (cMul w w w (hdep 3 8 (by kernel_rfl)) (hdep 4 9 (by kernel_rfl)))),
      fun a w hB hfr hdep => Step.plain rfl (dBuild29 (w1 := w) (w2 := w) (w3 := w) (w4 := w) rfl (hdep 0 5 (by kernel_rfl)) (hdep 1 6 (by kernel_rfl)) (hdep 2 7 (by kernel_rfl)) (hdep 5 10 (by kernel_rfl))), trivial⟩
  intro u2 hb2
  simp only [List.take, List.drop, FinAll, Act.put, List.setIfInBounds_toArray, List.set_cons_succ, List.set_cons_zero]
  rintro v5_2 h5_2 v6_2 h6_2 v7_2 h7_2 v8_2 h8_2 v9_2 h9_2 v10_2 h10_2 _ ⟨e11_2, rfl, x11_2⟩
  have om4_1 := block_below hb2 (lt_of_heap m4_1) m4_1
  refine wpList_store_row rfl 29 (.tmp 4) (.tmp 11) rfl _ (e11_2) rfl rfl 29 _ om4_1 (by rw [(Pt4.cells x11_2).1]; exact info29) (by rw [(Pt4.cells x11_2).1]; rfl) (Pt4.cells x11_2).2 ?_
  have n4_2 := setRow_heap _ _ _ (e11_2) _ _ om4_1
  have hO2 := setRow_below (hO1.trans (hb2.mono (hO1).size)) lwm4_1 (e11_2)
  refine hK2 _ _ ?_
  clear hK2 K2
  refine wp_ret ?_
  refine bodyPost_ret (v := .agg (e11_2)) ?_ rfl ⟨_, rfl, hO2, ⟨_, rfl, x11_2⟩⟩
  exact results_cell_row Tryd.results34 _ _ _ 29 _ (0, 0) _ rfl n4_2 Tryd.underlying29 rfl (by first | exact info26 | exact info29 | exact info35 | (rw [(Pt4.cells (by assumption)).1]; exact info29) | (rw [cellsP_size (by assumption)]; exact info29))
end Go.Proofs.YtpfcboakafbnlaaDoor
