/-
  negative, ofPair. plus, Neg. slices.Reverse, turned, known. turned, known. known; the known numbers; twiceD, Zero, Base, Add, Equal. Equal, xWith's root.
-/
import Derived.Test.YtpfcboakafbnlaaDoorK
import Derived.Laws.IdiomCopy
set_option linter.unusedVariables false
namespace Go.Proofs.YtpfcboakafbnlaaDoor
open Go.RowKit Go.Sort Go.BigFrame
set_option maxRecDepth 100000
set_option maxHeartbeats 2000000
theorem use {R : Value → World → Prop} {a v : Value} {w : World} (h : a = v) (hv : R v w) : R a w := by subst h; exact hv
section
variable {ρ : Operand → Value} {o : Oper} {x y z t : Operand} {w : World}
theorem dBox27 {lo : Nat} {e : E5} (hlo : lo ≤ w.heap.size) (ho : o.op = .box 27 x) (hx : ρ x = .agg (elc e)) (_ : True) : Does Tryd.prog o ρ w (fun v w' => Below w.heap.size w w' ∧ Box lo (elc e) 27 v w') :=
  Does.new _ (.cells (elc e) 27) (by simp only [execOp, ho, hx]; kernel_rfl) ⟨_, rfl, hlo, heap_alloc_new _ _⟩
theorem dBox29 {lo : Nat} {cs : Array Value} {X Y Z T : Fe} (hlo : lo ≤ w.heap.size) (ho : o.op = .box 29 x) (hx : ρ x = .agg cs) (hc : Cells4 cs X Y Z T) : Does Tryd.prog o ρ w (fun v w' => Below w.heap.size w w' ∧ Box lo cs 29 v w') := by
  obtain ⟨e1, e2, e3, e4, _, _, _, _, rfl, _⟩ := hc
  exact Does.new _ (.cells (ptc e1 e2 e3 e4) 29) (by simp only [execOp, ho, hx]; kernel_rfl) ⟨_, rfl, hlo, heap_alloc_new _ _⟩
end
theorem wpList_assign {P : Program} {ops : Array Oper} {Q : Exit → Act → World → Prop} {o : Oper} {rest : List Oper} {a : Act} {w : World} {x : Operand} {d : Nat} (hg : o.guard = none) (ho : o.op = .assign x) (hd : o.dst = some d)
    (h : wpList P ops Q rest (a.put (some d) (a.eval x)) w) : wpList P ops Q (o :: rest) a w :=
  wpList_plain hg fun _ hK => by
    unfold Oper.wp
    rw [run_assignO x ho w, Oper.upon_value, hd]
    exact hK _ _ h
theorem elem_of {w0 : World} {e : E5} {X : Fe} (h : e.wf) (hX : fe e.val = X) : El X (.agg (elc e)) w0 := ⟨e, h, rfl, hX⟩
theorem cNegEl {x : Fe} {v : Value} (w w0 : World) (h : El x v w0) : Ret 33 #[v] w (El (0 - (x))) := by
  obtain ⟨e, he, rfl, hx⟩ := h
  unfold Ret
  have hO0 : Below w.heap.size w w := Below.refl _ _
  go_enter Tryd.func33, Tryd.ntmps33
  refine wp_seq_k fun K1 hK1 => ?_
  refine wp_plain_inv 2 (specs [Box w.heap.size (elc e) 27, Box w.heap.size (elc zeroE) 27]) (specs_stb ⟨Box.stb _ _ _, Box.stb _ _ _, trivial⟩) (by kernel_rfl) ?_ ?_
  · refine ⟨fun a w hB hfr hdep => Step.plain rfl (dBox27 hB.size rfl (hfr 0 (by kernel_rfl)) trivial),
      fun a w hB hfr hdep => Step.plain rfl (dAlloc27 hB.size rfl), trivial⟩
  intro u1 hb1
  simp only [List.take, List.drop, FinAll, Act.put, List.setIfInBounds_toArray, List.set_cons_succ, List.set_cons_zero]
  rintro _ ⟨g1_1, rfl, l1_1, m1_1⟩ _ ⟨g2_1, rfl, l2_1, m2_1⟩
  have hO1 := (hO0).trans (hb1.mono (hO0).size)
  have lwm1_1 := Nat.le_trans (hO0).size l1_1
  have lwm2_1 := Nat.le_trans (hO0).size l2_1
  refine hK1 _ _ ?_
  clear hK1 K1
  refine wp_seq_k fun K2 hK2 => ?_
  refine wp_region_inv 3 (specs [El (0), El (x), El ((0) - (x))]) (by kernel_rfl) (specs_stb ⟨El.stb _, El.stb _, El.stb _, trivial⟩) (by kernel_rfl) ?_ ?_
  · refine ⟨fun a w hB hfr hdep => Step.plain rfl (Does.call 53 #[.int .i64 0] (by kernel_rfl) (cInt0 w)),
      fun a w hB hfr hdep => Step.plain rfl (dLoadEl he hx (block_below hB (lt_of_heap m1_1) m1_1) rfl (hfr 1 (by kernel_rfl)) (fun _ h => h)),
      fun a w hB hfr hdep => Step.plain rfl (Does.call 58 #[(a.eval (.tmp 3)), (a.eval (.tmp 4))] (by kernel_rfl) (cSub w w w (hdep 0 3 (by kernel_rfl)) (hdep 1 4 (by kernel_rfl)))), trivial⟩
  intro u2 hb2
  simp only [List.take, List.drop, FinAll, Act.put, List.setIfInBounds_toArray, List.set_cons_succ, List.set_cons_zero]
  rintro v3_2 h3_2 v4_2 h4_2 _ ⟨e5_2, q5_2, rfl, x5_2⟩
  have om2_1 := block_below hb2 (lt_of_heap m2_1) m2_1
  refine wpList_store_row rfl 27 (.tmp 2) (.tmp 5) rfl _ (elc e5_2) rfl rfl 27 _ om2_1 info26 rfl (elc_one _) ?_
  have n2_2 := setRow_heap _ _ _ (elc e5_2) _ _ om2_1
  have hO2 := setRow_below (hO1.trans (hb2.mono (hO1).size)) lwm2_1 (elc e5_2)
  refine hK2 _ _ ?_
  clear hK2 K2
  refine wp_ret ?_
  refine bodyPost_ret (v := .agg (elc e5_2)) ?_ rfl ⟨_, rfl, hO2, ⟨_, q5_2, rfl, x5_2⟩⟩
  exact results_cell_row Tryd.results33 _ _ _ 27 _ (0, 0) _ rfl n2_2 Tryd.underlying27 rfl (by first | exact info26 | exact info29 | exact info35 | (rw [(Pt4.cells (by assumption)).1]; exact info29) | (rw [cellsP_size (by assumption)]; exact info29))
theorem cOfPair {x y : Fe} {v1 v2 : Value} (w w0 w1 : World) (h : El x v1 w0) (h' : El y v2 w1) : Ret 34 #[v1, v2] w (Pt4 (x) (y) 1 ((x) * (y))) := by
  obtain ⟨e, he, rfl, hx⟩ := h
  obtain ⟨d, hd, rfl, hy⟩ := h'
  unfold Ret
  have hO0 : Below w.heap.size w w := Below.refl _ _
  go_enter Tryd.func34, Tryd.ntmps34
  refine wp_seq_k fun K1 hK1 => ?_
  refine wp_plain_inv 3 (specs [Box w.heap.size (elc e) 27, Box w.heap.size (elc d) 27, Box w.heap.size (ptc zeroE zeroE zeroE zeroE) 29]) (specs_stb ⟨Box.stb _ _ _, Box.stb _ _ _, Box.stb _ _ _, trivial⟩) (by kernel_rfl) ?_ ?_
  · refine ⟨fun a w hB hfr hdep => Step.plain rfl (dBox27 hB.size rfl (hfr 0 (by kernel_rfl)) trivial),
      fun a w hB hfr hdep => Step.plain rfl (dBox27 hB.size rfl (hfr 1 (by kernel_rfl)) trivial),
      fun a w hB hfr hdep => Step.plain rfl (dAlloc29 hB.size rfl), trivial⟩
  intro u1 hb1
  simp only [List.take, List.drop, FinAll, Act.put, List.setIfInBounds_toArray, List.set_cons_succ, List.set_cons_zero]
  rintro _ ⟨g2_1, rfl, l2_1, m2_1⟩ _ ⟨g3_1, rfl, l3_1, m3_1⟩ _ ⟨g4_1, rfl, l4_1, m4_1⟩
  have hO1 := (hO0).trans (hb1.mono (hO0).size)
  have lwm2_1 := Nat.le_trans (hO0).size l2_1
  have lwm3_1 := Nat.le_trans (hO0).size l3_1
  have lwm4_1 := Nat.le_trans (hO0).size l4_1
  refine hK1 _ _ ?_
  clear hK1 K1
  refine wp_seq_k fun K2 hK2 => ?_
  refine wp_region_inv 7 (specs [El (x), El (y), El (1), El (x), El (y), El ((x) * (y)), Pt4 (x) (y) (1) ((x) * (y))]) (by kernel_rfl) (specs_stb ⟨El.stb _, El.stb _, El.stb _, El.stb _, El.stb _, El.stb _, Pt4.stb _ _ _ _, trivial⟩) (by kernel_rfl) ?_ ?_
  · refine ⟨fun a w hB hfr hdep => Step.plain rfl (dLoadEl he hx (block_below hB (lt_of_heap m2_1) m2_1) rfl (hfr 2 (by kernel_rfl)) (fun _ h => h)),
      fun a w hB hfr hdep => Step.plain rfl (dLoadEl hd hy (block_below hB (lt_of_heap m3_1) m3_1) rfl (hfr 3 (by kernel_rfl)) (fun _ h => h)),
      fun a w hB hfr hdep => Step.plain rfl (Does.call 53 #[.int .i64 1] (by kernel_rfl) (cInt1 w)),
      fun a w hB hfr hdep => Step.plain rfl (dLoadEl he hx (block_below hB (lt_of_heap m2_1) m2_1) rfl (hfr 2 (by kernel_rfl)) (fun _ h => h)),
      fun a w hB hfr hdep => Step.plain rfl (dLoadEl hd hy (block_below hB (lt_of_heap m3_1) m3_1) rfl (hfr 3 (by kernel_rfl)) (fun _ h => h)),
      fun a w hB hfr hdep => Step.plain rfl (Does.call 39 #[(a.eval (.tmp 8)), (a.eval (.tmp 9))] (by kernel_rfl) (cMul w w w (hdep 3 8 (by kernel_rfl)) (hdep 4 9 (by kernel_rfl)))),
      fun a w hB hfr hdep => Step.plain rfl (dBuild29 (w1 := w) (w2 := w) (w3 := w) (w4 := w) rfl (hdep 0 5 (by kernel_rfl)) (hdep 1 6 (by kernel_rfl)) (hdep 2 7 (by kernel_rfl)) (hdep 5 10 (by kernel_rfl))), trivial⟩
  intro u2 hb2
  simp only [List.take, List.drop, FinAll, Act.put, List.setIfInBounds_toArray, List.set_cons_succ, List.set_cons_zero]
  rintro v5_2 h5_2 v6_2 h6_2 v7_2 h7_2 v8_2 h8_2 v9_2 h9_2 v10_2 h10_2 _ ⟨e11_2, rfl, x11_2⟩
  have om4_1 := block_below hb2 (lt_of_heap m4_1) m4_1
  refine wpList_store_row rfl 29 (.tmp 4) (.tmp 11) rfl _ (e11_2) rfl rfl 29 _ om4_1 (by rw [(Pt4.cells x11_2).1]; exact info29) (by rw [(Pt4.cells x11_2).1]; rfl) (Pt4.cells x11_2).2 ?_
  have n4_2 := setRow_heap _ _ _ (e11_2) _ _ om4_1
  have hO2 := setRow_below (hO1.trans (hb2.mono (hO1).size)) lwm4_1 (e11_2)
  refine hK2 _ _ ?_
  clear hK2 K2
  refine wp_ret ?_
  refine bodyPost_ret (v := .agg (e11_2)) ?_ rfl ⟨_, rfl, hO2, ⟨_, rfl, x11_2⟩⟩
  exact results_cell_row Tryd.results34 _ _ _ 29 _ (0, 0) _ rfl n4_2 Tryd.underlying29 rfl (by first | exact info26 | exact info29 | exact info35 | (rw [(Pt4.cells (by assumption)).1]; exact info29) | (rw [cellsP_size (by assumption)]; exact info29))
end Go.Proofs.YtpfcboakafbnlaaDoor
set_option linter.unusedVariables false
namespace Go.Proofs.YtpfcboakafbnlaaDoor
open Go.RowKit Go.Sort Go.BigFrame
set_option maxRecDepth 100000
set_option maxHeartbeats 2000000
theorem cPlus {p q : Pt} {v1 v2 v3 : Value} (w w0 w1 w2 : World) (h1 : PtV p v1 w0) (h2 : PtV q v2 w1) (h3 : El (dd + dd) v3 w2) : Ret 49 #[v1, v2, v3] w (PtV (p.add q)) := by
  obtain ⟨cs1, rfl, X1, Y1, Z1, T1, h41, hr1⟩ := h1
  obtain ⟨cs2, rfl, X2, Y2, Z2, T2, h42, hr2⟩ := h2
  obtain ⟨d, hd, rfl, hdd⟩ := h3
  unfold Ret
  have hO0 : Below w.heap.size w w := Below.refl _ _
  go_enter Tryd.func49, Tryd.ntmps49
  refine wp_seq_k fun K1 hK1 => ?_
  refine wp_plain_inv 4 (specs [Box w.heap.size (cs1) 29, Box w.heap.size (cs2) 29, Box w.heap.size (elc d) 27, Box w.heap.size (ptc zeroE zeroE zeroE zeroE) 29]) (specs_stb ⟨Box.stb _ _ _, Box.stb _ _ _, Box.stb _ _ _, Box.stb _ _ _, trivial⟩) (by kernel_rfl) ?_ ?_
  · refine ⟨fun a w hB hfr hdep => Step.plain rfl (dBox29 hB.size rfl (hfr 0 (by kernel_rfl)) h41),
      fun a w hB hfr hdep => Step.plain rfl (dBox29 hB.size rfl (hfr 1 (by kernel_rfl)) h42),
      fun a w hB hfr hdep => Step.plain rfl (dBox27 hB.size rfl (hfr 2 (by kernel_rfl)) trivial),
      fun a w hB hfr hdep => Step.plain rfl (dAlloc29 hB.size rfl), trivial⟩
  intro u1 hb1
  simp only [List.take, List.drop, FinAll, Act.put, List.setIfInBounds_toArray, List.set_cons_succ, List.set_cons_zero]
  rintro _ ⟨g3_1, rfl, l3_1, m3_1⟩ _ ⟨g4_1, rfl, l4_1, m4_1⟩ _ ⟨g5_1, rfl, l5_1, m5_1⟩ _ ⟨g6_1, rfl, l6_1, m6_1⟩
  have hO1 := (hO0).trans (hb1.mono (hO0).size)
  have lwm3_1 := Nat.le_trans (hO0).size l3_1
  have lwm4_1 := Nat.le_trans (hO0).size l4_1
  have lwm5_1 := Nat.le_trans (hO0).size l5_1
  have lwm6_1 := Nat.le_trans (hO0).size l6_1
  refine hK1 _ _ ?_
  clear hK1 K1
  refine wp_seq_k fun K2 hK2 => ?_
  refine wp_region_inv 12 (specs [Is (.pointer (some ⟨g3_1, 5, none⟩)), El (Y1), Is (.pointer (some ⟨g3_1, 0, none⟩)), El (X1), El ((Y1) - (X1)), Is (.pointer (some ⟨g4_1, 5, none⟩)), El (Y2), Is (.pointer (some ⟨g4_1, 0, none⟩)), El (X2), El ((Y2) - (X2)), El (((Y1) - (X1)) * ((Y2) - (X2))), Box u1.heap.size (elc zeroE) 27]) (by kernel_rfl) (specs_stb ⟨Is.stb _, El.stb _, Is.stb _, El.stb _, El.stb _, Is.stb _, El.stb _, Is.stb _, El.stb _, El.stb _, El.stb _, Box.stb _ _ _, trivial⟩) (by kernel_rfl) ?_ ?_
  · refine ⟨fun a w hB hfr hdep => Step.plain rfl (dFa29 g3_1 1 (by decide) rfl (hfr 3 (by kernel_rfl))),
      fun a w hB hfr hdep => Step.plain rfl (dLoadPart (k := 1) h41 (block_below hB (lt_of_heap m3_1) m3_1) (by decide) rfl (hdep 0 16 (by kernel_rfl)) (fun _ h => h)),
      fun a w hB hfr hdep => Step.plain rfl (dFa29 g3_1 0 (by decide) rfl (hfr 3 (by kernel_rfl))),
      fun a w hB hfr hdep => Step.plain rfl (dLoadPart (k := 0) h41 (block_below hB (lt_of_heap m3_1) m3_1) (by decide) rfl (hdep 2 18 (by kernel_rfl)) (fun _ h => h)),
      fun a w hB hfr hdep => Step.plain rfl (Does.call 58 #[(a.eval (.tmp 17)), (a.eval (.tmp 19))] (by kernel_rfl) (cSub w w w (hdep 1 17 (by kernel_rfl)) (hdep 3 19 (by kernel_rfl)))),
      fun a w hB hfr hdep => Step.plain rfl (dFa29 g4_1 1 (by decide) rfl (hfr 4 (by kernel_rfl))),
      fun a w hB hfr hdep => Step.plain rfl (dLoadPart (k := 1) h42 (block_below hB (lt_of_heap m4_1) m4_1) (by decide) rfl (hdep 5 21 (by kernel_rfl)) (fun _ h => h)),
      fun a w hB hfr hdep => Step.plain rfl (dFa29 g4_1 0 (by decide) rfl (hfr 4 (by kernel_rfl))),
      fun a w hB hfr hdep => Step.plain rfl (dLoadPart (k := 0) h42 (block_below hB (lt_of_heap m4_1) m4_1) (by decide) rfl (hdep 7 23 (by kernel_rfl)) (fun _ h => h)),
      fun a w hB hfr hdep => Step.plain rfl (Does.call 58 #[(a.eval (.tmp 22)), (a.eval (.tmp 24))] (by kernel_rfl) (cSub w w w (hdep 6 22 (by kernel_rfl)) (hdep 8 24 (by kernel_rfl)))),
      fun a w hB hfr hdep => Step.plain rfl (Does.call 39 #[(a.eval (.tmp 20)), (a.eval (.tmp 25))] (by kernel_rfl) (cMul w w w (hdep 4 20 (by kernel_rfl)) (hdep 9 25 (by kernel_rfl)))),
      fun a w hB hfr hdep => Step.plain rfl (dAlloc27 hB.size rfl), trivial⟩
  intro u2 hb2
  simp only [List.take, List.drop, FinAll, Act.put, List.setIfInBounds_toArray, List.set_cons_succ, List.set_cons_zero]
  rintro _ rfl v17_2 h17_2 _ rfl v19_2 h19_2 v20_2 h20_2 _ rfl v22_2 h22_2 _ rfl v24_2 h24_2 v25_2 h25_2 _ ⟨e26_2, q26_2, rfl, x26_2⟩ _ ⟨g7_2, rfl, l7_2, m7_2⟩
  refine wpList_store_row rfl 27 (.tmp 7) (.tmp 26) rfl _ (elc e26_2) rfl rfl 27 _ m7_2 info26 rfl (elc_one _) ?_
  have n7_2 := setRow_heap _ _ _ (elc e26_2) _ _ m7_2
  replace hb2 := setRow_below hb2 l7_2 (elc e26_2)
  generalize hw2_1 : u2.setRow g7_2 (elc e26_2) = u2_1 at n7_2 hb2  ⊢
  clear hw2_1 m7_2
  have hO2 := (hO1).trans (hb2.mono (hO1).size)
  have m3_1__2 := block_below hb2 (lt_of_heap m3_1) m3_1
  have m4_1__2 := block_below hb2 (lt_of_heap m4_1) m4_1
  have m5_1__2 := block_below hb2 (lt_of_heap m5_1) m5_1
  have m6_1__2 := block_below hb2 (lt_of_heap m6_1) m6_1
  have lwn7_2 := Nat.le_trans (hO1).size l7_2
  refine hK2 _ _ ?_
  clear hK2 K2
  obtain ⟨A, hA⟩ : ∃ A, A = ((Y1) - (X1)) * ((Y2) - (X2)) := ⟨_, rfl⟩
  rw [← hA] at x26_2
  refine wp_seq_k fun K3 hK3 => ?_
  refine wp_region_inv 12 (specs [Is (.pointer (some ⟨g3_1, 5, none⟩)), El (Y1), Is (.pointer (some ⟨g3_1, 0, none⟩)), El (X1), El ((Y1) + (X1)), Is (.pointer (some ⟨g4_1, 5, none⟩)), El (Y2), Is (.pointer (some ⟨g4_1, 0, none⟩)), El (X2), El ((Y2) + (X2)), El (((Y1) + (X1)) * ((Y2) + (X2))), Box u2_1.heap.size (elc zeroE) 27]) (by kernel_rfl) (specs_stb ⟨Is.stb _, El.stb _, Is.stb _, El.stb _, El.stb _, Is.stb _, El.stb _, Is.stb _, El.stb _, El.stb _, El.stb _, Box.stb _ _ _, trivial⟩) (by kernel_rfl) ?_ ?_
  · refine ⟨fun a w hB hfr hdep => Step.plain rfl (dFa29 g3_1 1 (by decide) rfl (hfr 3 (by kernel_rfl))),
      fun a w hB hfr hdep => Step.plain rfl (dLoadPart (k := 1) h41 (block_below hB (lt_of_heap m3_1__2) m3_1__2) (by decide) rfl (hdep 0 27 (by kernel_rfl)) (fun _ h => h)),
      fun a w hB hfr hdep => Step.plain rfl (dFa29 g3_1 0 (by decide) rfl (hfr 3 (by kernel_rfl))),
      fun a w hB hfr hdep => Step.plain rfl (dLoadPart (k := 0) h41 (block_below hB (lt_of_heap m3_1__2) m3_1__2) (by decide) rfl (hdep 2 29 (by kernel_rfl)) (fun _ h => h)),
      fun a w hB hfr hdep => Step.plain rfl (Does.call 56 #[(a.eval (.tmp 28)), (a.eval (.tmp 30))] (by kernel_rfl) (cAdd w w w (hdep 1 28 (by kernel_rfl)) (hdep 3 30 (by kernel_rfl)))),
      fun a w hB hfr hdep => Step.plain rfl (dFa29 g4_1 1 (by decide) rfl (hfr 4 (by kernel_rfl))),
      fun a w hB hfr hdep => Step.plain rfl (dLoadPart (k := 1) h42 (block_below hB (lt_of_heap m4_1__2) m4_1__2) (by decide) rfl (hdep 5 32 (by kernel_rfl)) (fun _ h => h)),
      fun a w hB hfr hdep => Step.plain rfl (dFa29 g4_1 0 (by decide) rfl (hfr 4 (by kernel_rfl))),
      fun a w hB hfr hdep => Step.plain rfl (dLoadPart (k := 0) h42 (block_below hB (lt_of_heap m4_1__2) m4_1__2) (by decide) rfl (hdep 7 34 (by kernel_rfl)) (fun _ h => h)),
      fun a w hB hfr hdep => Step.plain rfl (Does.call 56 #[(a.eval (.tmp 33)), (a.eval (.tmp 35))] (by kernel_rfl) (cAdd w w w (hdep 6 33 (by kernel_rfl)) (hdep 8 35 (by kernel_rfl)))),
      fun a w hB hfr hdep => Step.plain rfl (Does.call 39 #[(a.eval (.tmp 31)), (a.eval (.tmp 36))] (by kernel_rfl) (cMul w w w (hdep 4 31 (by kernel_rfl)) (hdep 9 36 (by kernel_rfl)))),
      fun a w hB hfr hdep => Step.plain rfl (dAlloc27 hB.size rfl), trivial⟩
  intro u3 hb3
  simp only [List.take, List.drop, FinAll, Act.put, List.setIfInBounds_toArray, List.set_cons_succ, List.set_cons_zero]
  rintro _ rfl v28_3 h28_3 _ rfl v30_3 h30_3 v31_3 h31_3 _ rfl v33_3 h33_3 _ rfl v35_3 h35_3 v36_3 h36_3 _ ⟨e37_3, q37_3, rfl, x37_3⟩ _ ⟨g8_3, rfl, l8_3, m8_3⟩
  refine wpList_store_row rfl 27 (.tmp 8) (.tmp 37) rfl _ (elc e37_3) rfl rfl 27 _ m8_3 info26 rfl (elc_one _) ?_
  have n8_3 := setRow_heap _ _ _ (elc e37_3) _ _ m8_3
  replace hb3 := setRow_below hb3 l8_3 (elc e37_3)
  generalize hw3_1 : u3.setRow g8_3 (elc e37_3) = u3_1 at n8_3 hb3  ⊢
  clear hw3_1 m8_3
  have hO3 := (hO2).trans (hb3.mono (hO2).size)
  have m3_1__3 := block_below hb3 (lt_of_heap m3_1__2) m3_1__2
  have m4_1__3 := block_below hb3 (lt_of_heap m4_1__2) m4_1__2
  have m5_1__3 := block_below hb3 (lt_of_heap m5_1__2) m5_1__2
  have m6_1__3 := block_below hb3 (lt_of_heap m6_1__2) m6_1__2
  have n7_2__3 := block_below hb3 (lt_of_heap n7_2) n7_2
  have lwn8_3 := Nat.le_trans (hO2).size l8_3
  refine hK3 _ _ ?_
  clear hK3 K3
  obtain ⟨B, hB⟩ : ∃ B, B = ((Y1) + (X1)) * ((Y2) + (X2)) := ⟨_, rfl⟩
  rw [← hB] at x37_3
  refine wp_seq_k fun K4 hK4 => ?_
  refine wp_region_inv 8 (specs [Is (.pointer (some ⟨g3_1, 15, none⟩)), El (T1), El (dd + dd), El ((T1) * (dd + dd)), Is (.pointer (some ⟨g4_1, 15, none⟩)), El (T2), El (((T1) * (dd + dd)) * (T2)), Box u3_1.heap.size (elc zeroE) 27]) (by kernel_rfl) (specs_stb ⟨Is.stb _, El.stb _, El.stb _, El.stb _, Is.stb _, El.stb _, El.stb _, Box.stb _ _ _, trivial⟩) (by kernel_rfl) ?_ ?_
  · refine ⟨fun a w hB hfr hdep => Step.plain rfl (dFa29 g3_1 3 (by decide) rfl (hfr 3 (by kernel_rfl))),
      fun a w hB hfr hdep => Step.plain rfl (dLoadPart (k := 3) h41 (block_below hB (lt_of_heap m3_1__3) m3_1__3) (by decide) rfl (hdep 0 38 (by kernel_rfl)) (fun _ h => h)),
      fun a w hB hfr hdep => Step.plain rfl (dLoadEl hd hdd (block_below hB (lt_of_heap m5_1__3) m5_1__3) rfl (hfr 5 (by kernel_rfl)) (fun _ h => h)),
      fun a w hB hfr hdep => Step.plain rfl (Does.call 39 #[(a.eval (.tmp 39)), (a.eval (.tmp 40))] (by kernel_rfl) (cMul w w w (hdep 1 39 (by kernel_rfl)) (hdep 2 40 (by kernel_rfl)))),
      fun a w hB hfr hdep => Step.plain rfl (dFa29 g4_1 3 (by decide) rfl (hfr 4 (by kernel_rfl))),
      fun a w hB hfr hdep => Step.plain rfl (dLoadPart (k := 3) h42 (block_below hB (lt_of_heap m4_1__3) m4_1__3) (by decide) rfl (hdep 4 42 (by kernel_rfl)) (fun _ h => h)),
      fun a w hB hfr hdep => Step.plain rfl (Does.call 39 #[(a.eval (.tmp 41)), (a.eval (.tmp 43))] (by kernel_rfl) (cMul w w w (hdep 3 41 (by kernel_rfl)) (hdep 5 43 (by kernel_rfl)))),
      fun a w hB hfr hdep => Step.plain rfl (dAlloc27 hB.size rfl), trivial⟩
  intro u4 hb4
  simp only [List.take, List.drop, FinAll, Act.put, List.setIfInBounds_toArray, List.set_cons_succ, List.set_cons_zero]
  rintro _ rfl v39_4 h39_4 v40_4 h40_4 v41_4 h41_4 _ rfl v43_4 h43_4 _ ⟨e44_4, q44_4, rfl, x44_4⟩ _ ⟨g9_4, rfl, l9_4, m9_4⟩
  refine wpList_store_row rfl 27 (.tmp 9) (.tmp 44) rfl _ (elc e44_4) rfl rfl 27 _ m9_4 info26 rfl (elc_one _) ?_
  have n9_4 := setRow_heap _ _ _ (elc e44_4) _ _ m9_4
  replace hb4 := setRow_below hb4 l9_4 (elc e44_4)
  generalize hw4_1 : u4.setRow g9_4 (elc e44_4) = u4_1 at n9_4 hb4  ⊢
  clear hw4_1 m9_4
  have hO4 := (hO3).trans (hb4.mono (hO3).size)
  have m3_1__4 := block_below hb4 (lt_of_heap m3_1__3) m3_1__3
  have m4_1__4 := block_below hb4 (lt_of_heap m4_1__3) m4_1__3
  have m5_1__4 := block_below hb4 (lt_of_heap m5_1__3) m5_1__3
  have m6_1__4 := block_below hb4 (lt_of_heap m6_1__3) m6_1__3
  have n7_2__4 := block_below hb4 (lt_of_heap n7_2__3) n7_2__3
  have n8_3__4 := block_below hb4 (lt_of_heap n8_3) n8_3
  have lwn9_4 := Nat.le_trans (hO3).size l9_4
  refine hK4 _ _ ?_
  clear hK4 K4
  obtain ⟨C, hC⟩ : ∃ C, C = ((T1) * (dd + dd)) * (T2) := ⟨_, rfl⟩
  rw [← hC] at x44_4
  refine wp_seq_k fun K5 hK5 => ?_
  refine wp_plain_inv 6 (specs [Is (.pointer (some ⟨g3_1, 10, none⟩)), El (Z1), Is (.pointer (some ⟨g4_1, 10, none⟩)), El (Z2), El ((Z1) * (Z2)), Box u4_1.heap.size (elc zeroE) 27]) (specs_stb ⟨Is.stb _, El.stb _, Is.stb _, El.stb _, El.stb _, Box.stb _ _ _, trivial⟩) (by kernel_rfl) ?_ ?_
  · refine ⟨fun a w hB hfr hdep => Step.plain rfl (dFa29 g3_1 2 (by decide) rfl (hfr 3 (by kernel_rfl))),
      fun a w hB hfr hdep => Step.plain rfl (dLoadPart (k := 2) h41 (block_below hB (lt_of_heap m3_1__4) m3_1__4) (by decide) rfl (hdep 0 45 (by kernel_rfl)) (fun _ h => h)),
      fun a w hB hfr hdep => Step.plain rfl (dFa29 g4_1 2 (by decide) rfl (hfr 4 (by kernel_rfl))),
      fun a w hB hfr hdep => Step.plain rfl (dLoadPart (k := 2) h42 (block_below hB (lt_of_heap m4_1__4) m4_1__4) (by decide) rfl (hdep 2 47 (by kernel_rfl)) (fun _ h => h)),
      fun a w hB hfr hdep => Step.plain rfl (Does.call 39 #[(a.eval (.tmp 46)), (a.eval (.tmp 48))] (by kernel_rfl) (cMul w w w (hdep 1 46 (by kernel_rfl)) (hdep 3 48 (by kernel_rfl)))),
      fun a w hB hfr hdep => Step.plain rfl (dAlloc27 hB.size rfl), trivial⟩
  intro u5 hb5
  simp only [List.take, List.drop, FinAll, Act.put, List.setIfInBounds_toArray, List.set_cons_succ, List.set_cons_zero]
  rintro _ rfl v46_5 h46_5 _ rfl v48_5 h48_5 _ ⟨e49_5, q49_5, rfl, x49_5⟩ _ ⟨g10_5, rfl, l10_5, m10_5⟩
  refine wpList_store_row rfl 27 (.tmp 10) (.tmp 49) rfl _ (elc e49_5) rfl rfl 27 _ m10_5 info26 rfl (elc_one _) ?_
  have n10_5 := setRow_heap _ _ _ (elc e49_5) _ _ m10_5
  replace hb5 := setRow_below hb5 l10_5 (elc e49_5)
  generalize hw5_1 : u5.setRow g10_5 (elc e49_5) = u5_1 at n10_5 hb5  ⊢
  clear hw5_1 m10_5
  have hO5 := (hO4).trans (hb5.mono (hO4).size)
  have m3_1__5 := block_below hb5 (lt_of_heap m3_1__4) m3_1__4
  have m4_1__5 := block_below hb5 (lt_of_heap m4_1__4) m4_1__4
  have m5_1__5 := block_below hb5 (lt_of_heap m5_1__4) m5_1__4
  have m6_1__5 := block_below hb5 (lt_of_heap m6_1__4) m6_1__4
  have n7_2__5 := block_below hb5 (lt_of_heap n7_2__4) n7_2__4
  have n8_3__5 := block_below hb5 (lt_of_heap n8_3__4) n8_3__4
  have n9_4__5 := block_below hb5 (lt_of_heap n9_4) n9_4
  have lwn10_5 := Nat.le_trans (hO4).size l10_5
  refine hK5 _ _ ?_
  clear hK5 K5
  obtain ⟨Z, hZ⟩ : ∃ Z, Z = (Z1) * (Z2) := ⟨_, rfl⟩
  rw [← hZ] at x49_5
  refine wp_seq_k fun K6 hK6 => ?_
  refine wp_plain_inv 4 (specs [El (Z), El (Z), El ((Z) + (Z)), Box u5_1.heap.size (elc zeroE) 27]) (specs_stb ⟨El.stb _, El.stb _, El.stb _, Box.stb _ _ _, trivial⟩) (by kernel_rfl) ?_ ?_
  · refine ⟨fun a w hB hfr hdep => Step.plain rfl (dLoadEl q49_5 x49_5 (block_below hB (lt_of_heap n10_5) n10_5) rfl (hfr 10 (by kernel_rfl)) (fun _ h => h)),
      fun a w hB hfr hdep => Step.plain rfl (dLoadEl q49_5 x49_5 (block_below hB (lt_of_heap n10_5) n10_5) rfl (hfr 10 (by kernel_rfl)) (fun _ h => h)),
      fun a w hB hfr hdep => Step.plain rfl (Does.call 56 #[(a.eval (.tmp 50)), (a.eval (.tmp 51))] (by kernel_rfl) (cAdd w w w (hdep 0 50 (by kernel_rfl)) (hdep 1 51 (by kernel_rfl)))),
      fun a w hB hfr hdep => Step.plain rfl (dAlloc27 hB.size rfl), trivial⟩
  intro u6 hb6
  simp only [List.take, List.drop, FinAll, Act.put, List.setIfInBounds_toArray, List.set_cons_succ, List.set_cons_zero]
  rintro v50_6 h50_6 v51_6 h51_6 _ ⟨e52_6, q52_6, rfl, x52_6⟩ _ ⟨g11_6, rfl, l11_6, m11_6⟩
  refine wpList_store_row rfl 27 (.tmp 11) (.tmp 52) rfl _ (elc e52_6) rfl rfl 27 _ m11_6 info26 rfl (elc_one _) ?_
  have n11_6 := setRow_heap _ _ _ (elc e52_6) _ _ m11_6
  replace hb6 := setRow_below hb6 l11_6 (elc e52_6)
  generalize hw6_1 : u6.setRow g11_6 (elc e52_6) = u6_1 at n11_6 hb6  ⊢
  clear hw6_1 m11_6
  have hO6 := (hO5).trans (hb6.mono (hO5).size)
  have m3_1__6 := block_below hb6 (lt_of_heap m3_1__5) m3_1__5
  have m4_1__6 := block_below hb6 (lt_of_heap m4_1__5) m4_1__5
  have m5_1__6 := block_below hb6 (lt_of_heap m5_1__5) m5_1__5
  have m6_1__6 := block_below hb6 (lt_of_heap m6_1__5) m6_1__5
  have n7_2__6 := block_below hb6 (lt_of_heap n7_2__5) n7_2__5
  have n8_3__6 := block_below hb6 (lt_of_heap n8_3__5) n8_3__5
  have n9_4__6 := block_below hb6 (lt_of_heap n9_4__5) n9_4__5
  have n10_5__6 := block_below hb6 (lt_of_heap n10_5) n10_5
  have lwn11_6 := Nat.le_trans (hO5).size l11_6
  refine hK6 _ _ ?_
  clear hK6 K6
  obtain ⟨D, hD⟩ : ∃ D, D = (Z) + (Z) := ⟨_, rfl⟩
  rw [← hD] at x52_6
  refine wp_seq_k fun K7 hK7 => ?_
  refine wp_region_inv2 (pi := 6) (pj := 7) (di := 12) (dj := 13) 8 (specs [El (B), El (A), El ((B) - (A)), El (D), El (C), El ((D) + (C)), Box u6_1.heap.size (elc zeroE) 27, Box u6_1.heap.size (elc zeroE) 27]) (by kernel_rfl) (specs_stb ⟨El.stb _, El.stb _, El.stb _, El.stb _, El.stb _, El.stb _, Box.stb _ _ _, Box.stb _ _ _, trivial⟩) (by kernel_rfl) ?_ (by decide) (by decide) (by decide) ?_ ?_ ?_ rfl rfl ?_
  · refine ⟨fun a w hB hfr hdep => Step.plain rfl (dLoadEl q37_3 x37_3 (block_below hB (lt_of_heap n8_3__6) n8_3__6) rfl (hfr 8 (by kernel_rfl)) (fun _ h => h)),
      fun a w hB hfr hdep => Step.plain rfl (dLoadEl q26_2 x26_2 (block_below hB (lt_of_heap n7_2__6) n7_2__6) rfl (hfr 7 (by kernel_rfl)) (fun _ h => h)),
      fun a w hB hfr hdep => Step.plain rfl (Does.call 58 #[(a.eval (.tmp 53)), (a.eval (.tmp 54))] (by kernel_rfl) (cSub w w w (hdep 0 53 (by kernel_rfl)) (hdep 1 54 (by kernel_rfl)))),
      fun a w hB hfr hdep => Step.plain rfl (dLoadEl q52_6 x52_6 (block_below hB (lt_of_heap n11_6) n11_6) rfl (hfr 11 (by kernel_rfl)) (fun _ h => h)),
      fun a w hB hfr hdep => Step.plain rfl (dLoadEl q44_4 x44_4 (block_below hB (lt_of_heap n9_4__6) n9_4__6) rfl (hfr 9 (by kernel_rfl)) (fun _ h => h)),
      fun a w hB hfr hdep => Step.plain rfl (Does.call 56 #[(a.eval (.tmp 56)), (a.eval (.tmp 57))] (by kernel_rfl) (cAdd w w w (hdep 3 56 (by kernel_rfl)) (hdep 4 57 (by kernel_rfl)))),
      fun a w hB hfr hdep => Step.plain rfl (dAlloc27 hB.size rfl),
      fun a w hB hfr hdep => Step.plain rfl (dAlloc27 hB.size rfl), trivial⟩
  · rintro i (rfl | rfl)
    · exact ⟨_, _, rfl, fun ρ w => al27 rfl⟩
    · exact ⟨_, _, rfl, fun ρ w => al27 rfl⟩
  · rintro i (rfl | rfl) v w g ⟨g1, h1, h2, h3⟩ h4
    · rw [h1] at h4; injection h4 with h5; injection h5 with h6; injection h6 with h7; exact h7 ▸ lt_of_heap h3
    · rw [h1] at h4; injection h4 with h5; injection h5 with h6; injection h6 with h7; exact h7 ▸ lt_of_heap h3
  · rintro i o (rfl | rfl) h
    · injection h with h; rw [← h]
    · injection h with h; rw [← h]
  intro u7 hb7
  simp only [List.take, List.drop, FinAll, Act.put, List.setIfInBounds_toArray, List.set_cons_succ, List.set_cons_zero]
  rintro v53_7 h53_7 v54_7 h54_7 _ ⟨e55_7, q55_7, rfl, x55_7⟩ v56_7 h56_7 v57_7 h57_7 _ ⟨e58_7, q58_7, rfl, x58_7⟩ _ ⟨g12_7, rfl, l12_7, m12_7⟩ _ ⟨g13_7, rfl, l13_7, m13_7⟩ nn7
  replace nn7 := nn7 _ _ rfl rfl
  refine wpList_store_row rfl 27 (.tmp 12) (.tmp 55) rfl _ (elc e55_7) rfl rfl 27 _ m12_7 info26 rfl (elc_one _) ?_
  have n12_7 := setRow_heap _ _ _ (elc e55_7) _ _ m12_7
  replace m13_7 := (setRow_other u7 g12_7 g13_7 (elc e55_7) (by first | exact nn7 | exact Ne.symm nn7 | omega)).trans m13_7
  replace hb7 := setRow_below hb7 l12_7 (elc e55_7)
  generalize hw7_1 : u7.setRow g12_7 (elc e55_7) = u7_1 at n12_7 hb7 m13_7 ⊢
  clear hw7_1 m12_7
  refine wpList_store_row rfl 27 (.tmp 13) (.tmp 58) rfl _ (elc e58_7) rfl rfl 27 _ m13_7 info26 rfl (elc_one _) ?_
  have n13_7 := setRow_heap _ _ _ (elc e58_7) _ _ m13_7
  replace n12_7 := (setRow_other u7_1 g13_7 g12_7 (elc e58_7) (by first | exact nn7 | exact Ne.symm nn7 | omega)).trans n12_7
  replace hb7 := setRow_below hb7 l13_7 (elc e58_7)
  generalize hw7_2 : u7_1.setRow g13_7 (elc e58_7) = u7_2 at n13_7 hb7 n12_7 ⊢
  clear hw7_2 m13_7
  have hO7 := (hO6).trans (hb7.mono (hO6).size)
  have m3_1__7 := block_below hb7 (lt_of_heap m3_1__6) m3_1__6
  have m4_1__7 := block_below hb7 (lt_of_heap m4_1__6) m4_1__6
  have m5_1__7 := block_below hb7 (lt_of_heap m5_1__6) m5_1__6
  have m6_1__7 := block_below hb7 (lt_of_heap m6_1__6) m6_1__6
  have n7_2__7 := block_below hb7 (lt_of_heap n7_2__6) n7_2__6
  have n8_3__7 := block_below hb7 (lt_of_heap n8_3__6) n8_3__6
  have n9_4__7 := block_below hb7 (lt_of_heap n9_4__6) n9_4__6
  have n10_5__7 := block_below hb7 (lt_of_heap n10_5__6) n10_5__6
  have n11_6__7 := block_below hb7 (lt_of_heap n11_6) n11_6
  have lwn12_7 := Nat.le_trans (hO6).size l12_7
  have lwn13_7 := Nat.le_trans (hO6).size l13_7
  refine hK7 _ _ ?_
  clear hK7 K7
  obtain ⟨E, hE⟩ : ∃ E, E = (B) - (A) := ⟨_, rfl⟩
  rw [← hE] at x55_7
  obtain ⟨G, hG⟩ : ∃ G, G = (D) + (C) := ⟨_, rfl⟩
  rw [← hG] at x58_7
  refine wp_seq_k fun K8 hK8 => ?_
  refine wp_region_inv2 (pi := 6) (pj := 7) (di := 14) (dj := 15) 8 (specs [El (B), El (A), El ((B) + (A)), El (D), El (C), El ((D) - (C)), Box u7_2.heap.size (elc zeroE) 27, Box u7_2.heap.size (elc zeroE) 27]) (by kernel_rfl) (specs_stb ⟨El.stb _, El.stb _, El.stb _, El.stb _, El.stb _, El.stb _, Box.stb _ _ _, Box.stb _ _ _, trivial⟩) (by kernel_rfl) ?_ (by decide) (by decide) (by decide) ?_ ?_ ?_ rfl rfl ?_
  · refine ⟨fun a w hB hfr hdep => Step.plain rfl (dLoadEl q37_3 x37_3 (block_below hB (lt_of_heap n8_3__7) n8_3__7) rfl (hfr 8 (by kernel_rfl)) (fun _ h => h)),
      fun a w hB hfr hdep => Step.plain rfl (dLoadEl q26_2 x26_2 (block_below hB (lt_of_heap n7_2__7) n7_2__7) rfl (hfr 7 (by kernel_rfl)) (fun _ h => h)),
      fun a w hB hfr hdep => Step.plain rfl (Does.call 56 #[(a.eval (.tmp 59)), (a.eval (.tmp 60))] (by kernel_rfl) (cAdd w w w (hdep 0 59 (by kernel_rfl)) (hdep 1 60 (by kernel_rfl)))),
      fun a w hB hfr hdep => Step.plain rfl (dLoadEl q52_6 x52_6 (block_below hB (lt_of_heap n11_6__7) n11_6__7) rfl (hfr 11 (by kernel_rfl)) (fun _ h => h)),
      fun a w hB hfr hdep => Step.plain rfl (dLoadEl q44_4 x44_4 (block_below hB (lt_of_heap n9_4__7) n9_4__7) rfl (hfr 9 (by kernel_rfl)) (fun _ h => h)),
      fun a w hB hfr hdep => Step.plain rfl (Does.call 58 #[(a.eval (.tmp 62)), (a.eval (.tmp 63))] (by kernel_rfl) (cSub w w w (hdep 3 62 (by kernel_rfl)) (hdep 4 63 (by kernel_rfl)))),
      fun a w hB hfr hdep => Step.plain rfl (dAlloc27 hB.size rfl),
      fun a w hB hfr hdep => Step.plain rfl (dAlloc27 hB.size rfl), trivial⟩
  · rintro i (rfl | rfl)
    · exact ⟨_, _, rfl, fun ρ w => al27 rfl⟩
    · exact ⟨_, _, rfl, fun ρ w => al27 rfl⟩
  · rintro i (rfl | rfl) v w g ⟨g1, h1, h2, h3⟩ h4
    · rw [h1] at h4; injection h4 with h5; injection h5 with h6; injection h6 with h7; exact h7 ▸ lt_of_heap h3
    · rw [h1] at h4; injection h4 with h5; injection h5 with h6; injection h6 with h7; exact h7 ▸ lt_of_heap h3
  · rintro i o (rfl | rfl) h
    · injection h with h; rw [← h]
    · injection h with h; rw [← h]
  intro u8 hb8
  simp only [List.take, List.drop, FinAll, Act.put, List.setIfInBounds_toArray, List.set_cons_succ, List.set_cons_zero]
  rintro v59_8 h59_8 v60_8 h60_8 _ ⟨e61_8, q61_8, rfl, x61_8⟩ v62_8 h62_8 v63_8 h63_8 _ ⟨e64_8, q64_8, rfl, x64_8⟩ _ ⟨g14_8, rfl, l14_8, m14_8⟩ _ ⟨g15_8, rfl, l15_8, m15_8⟩ nn8
  replace nn8 := nn8 _ _ rfl rfl
  refine wpList_store_row rfl 27 (.tmp 14) (.tmp 61) rfl _ (elc e61_8) rfl rfl 27 _ m14_8 info26 rfl (elc_one _) ?_
  have n14_8 := setRow_heap _ _ _ (elc e61_8) _ _ m14_8
  replace m15_8 := (setRow_other u8 g14_8 g15_8 (elc e61_8) (by first | exact nn8 | exact Ne.symm nn8 | omega)).trans m15_8
  replace hb8 := setRow_below hb8 l14_8 (elc e61_8)
  generalize hw8_1 : u8.setRow g14_8 (elc e61_8) = u8_1 at n14_8 hb8 m15_8 ⊢
  clear hw8_1 m14_8
  refine wpList_store_row rfl 27 (.tmp 15) (.tmp 64) rfl _ (elc e64_8) rfl rfl 27 _ m15_8 info26 rfl (elc_one _) ?_
  have n15_8 := setRow_heap _ _ _ (elc e64_8) _ _ m15_8
  replace n14_8 := (setRow_other u8_1 g15_8 g14_8 (elc e64_8) (by first | exact nn8 | exact Ne.symm nn8 | omega)).trans n14_8
  replace hb8 := setRow_below hb8 l15_8 (elc e64_8)
  generalize hw8_2 : u8_1.setRow g15_8 (elc e64_8) = u8_2 at n15_8 hb8 n14_8 ⊢
  clear hw8_2 m15_8
  have hO8 := (hO7).trans (hb8.mono (hO7).size)
  have m3_1__8 := block_below hb8 (lt_of_heap m3_1__7) m3_1__7
  have m4_1__8 := block_below hb8 (lt_of_heap m4_1__7) m4_1__7
  have m5_1__8 := block_below hb8 (lt_of_heap m5_1__7) m5_1__7
  have m6_1__8 := block_below hb8 (lt_of_heap m6_1__7) m6_1__7
  have n7_2__8 := block_below hb8 (lt_of_heap n7_2__7) n7_2__7
  have n8_3__8 := block_below hb8 (lt_of_heap n8_3__7) n8_3__7
  have n9_4__8 := block_below hb8 (lt_of_heap n9_4__7) n9_4__7
  have n10_5__8 := block_below hb8 (lt_of_heap n10_5__7) n10_5__7
  have n11_6__8 := block_below hb8 (lt_of_heap n11_6__7) n11_6__7
  have n12_7__8 := block_below hb8 (lt_of_heap n12_7) n12_7
  have n13_7__8 := block_below hb8 (lt_of_heap n13_7) n13_7
  have lwn14_8 := Nat.le_trans (hO7).size l14_8
  have lwn15_8 := Nat.le_trans (hO7).size l15_8
  refine hK8 _ _ ?_
  clear hK8 K8
  obtain ⟨H, hH⟩ : ∃ H, H = (B) + (A) := ⟨_, rfl⟩
  rw [← hH] at x61_8
  obtain ⟨F, hF⟩ : ∃ F, F = (D) - (C) := ⟨_, rfl⟩
  rw [← hF] at x64_8
  refine wp_seq_k fun K9 hK9 => ?_
  refine wp_region_inv 13 (specs [El (E), El (F), El ((E) * (F)), El (H), El (G), El ((H) * (G)), El (G), El (F), El ((G) * (F)), El (E), El (H), El ((E) * (H)), Pt4 ((E) * (F)) ((H) * (G)) ((G) * (F)) ((E) * (H))]) (by kernel_rfl) (specs_stb ⟨El.stb _, El.stb _, El.stb _, El.stb _, El.stb _, El.stb _, El.stb _, El.stb _, El.stb _, El.stb _, El.stb _, El.stb _, Pt4.stb _ _ _ _, trivial⟩) (by kernel_rfl) ?_ ?_
  · refine ⟨fun a w hB hfr hdep => Step.plain rfl (dLoadEl q55_7 x55_7 (block_below hB (lt_of_heap n12_7__8) n12_7__8) rfl (hfr 12 (by kernel_rfl)) (fun _ h => h)),
      fun a w hB hfr hdep => Step.plain rfl (dLoadEl q64_8 x64_8 (block_below hB (lt_of_heap n15_8) n15_8) rfl (hfr 15 (by kernel_rfl)) (fun _ h => h)),
      fun a w hB hfr hdep => Step.plain rfl (Does.call 39 #[(a.eval (.tmp 65)), (a.eval (.tmp 66))] (by kernel_rfl) (cMul w w w (hdep 0 65 (by kernel_rfl)) (hdep 1 66 (by kernel_rfl)))),
      fun a w hB hfr hdep => Step.plain rfl (dLoadEl q61_8 x61_8 (block_below hB (lt_of_heap n14_8) n14_8) rfl (hfr 14 (by kernel_rfl)) (fun _ h => h)),
      fun a w hB hfr hdep => Step.plain rfl (dLoadEl q58_7 x58_7 (block_below hB (lt_of_heap n13_7__8) n13_7__8) rfl (hfr 13 (by kernel_rfl)) (fun _ h => h)),
      fun a w hB hfr hdep => Step.plain rfl (Does.call 39 #[(a.eval (.tmp 68)), (a.eval (.tmp 69))] (by kernel_rfl) (cMul w w w (hdep 3 68 (by kernel_rfl)) (hdep 4 69 (by kernel_rfl)))),
      fun a w hB hfr hdep => Step.plain rfl (dLoadEl q58_7 x58_7 (block_below hB (lt_of_heap n13_7__8) n13_7__8) rfl (hfr 13 (by kernel_rfl)) (fun _ h => h)),
      fun a w hB hfr hdep => Step.plain rfl (dLoadEl q64_8 x64_8 (block_below hB (lt_of_heap n15_8) n15_8) rfl (hfr 15 (by kernel_rfl)) (fun _ h => h)),
      fun a w hB hfr hdep => Step.plain rfl (Does.call 39 #[(a.eval (.tmp 71)), (a.eval (.tmp 72))] (by kernel_rfl) (cMul w w w (hdep 6 71 (by kernel_rfl)) (hdep 7 72 (by kernel_rfl)))),
      fun a w hB hfr hdep => Step.plain rfl (dLoadEl q55_7 x55_7 (block_below hB (lt_of_heap n12_7__8) n12_7__8) rfl (hfr 12 (by kernel_rfl)) (fun _ h => h)),
      fun a w hB hfr hdep => Step.plain rfl (dLoadEl q61_8 x61_8 (block_below hB (lt_of_heap n14_8) n14_8) rfl (hfr 14 (by kernel_rfl)) (fun _ h => h)),
      fun a w hB hfr hdep => Step.plain rfl (Does.call 39 #[(a.eval (.tmp 74)), (a.eval (.tmp 75))] (by kernel_rfl) (cMul w w w (hdep 9 74 (by kernel_rfl)) (hdep 10 75 (by kernel_rfl)))),
      fun a w hB hfr hdep => Step.plain rfl (dBuild29 (w1 := w) (w2 := w) (w3 := w) (w4 := w) rfl (hdep 2 67 (by kernel_rfl)) (hdep 5 70 (by kernel_rfl)) (hdep 8 73 (by kernel_rfl)) (hdep 11 76 (by kernel_rfl))), trivial⟩
  intro u9 hb9
  simp only [List.take, List.drop, FinAll, Act.put, List.setIfInBounds_toArray, List.set_cons_succ, List.set_cons_zero]
  rintro v65_9 h65_9 v66_9 h66_9 v67_9 h67_9 v68_9 h68_9 v69_9 h69_9 v70_9 h70_9 v71_9 h71_9 v72_9 h72_9 v73_9 h73_9 v74_9 h74_9 v75_9 h75_9 v76_9 h76_9 _ ⟨e77_9, rfl, x77_9⟩
  have om6_1__8 := block_below hb9 (lt_of_heap m6_1__8) m6_1__8
  refine wpList_store_row rfl 29 (.tmp 6) (.tmp 77) rfl _ (e77_9) rfl rfl 29 _ om6_1__8 (by rw [(Pt4.cells x77_9).1]; exact info29) (by rw [(Pt4.cells x77_9).1]; rfl) (Pt4.cells x77_9).2 ?_
  have n6_9 := setRow_heap _ _ _ (e77_9) _ _ om6_1__8
  have hO9 := setRow_below (hO8.trans (hb9.mono (hO8).size)) lwm6_1 (e77_9)
  have hr := rep_add hr1 hr2 (A := A) (B := B) (C := C) (D := D) (E := E) (F := F) (G := G) (H := H) hA hB (by rw [hC]; grobner) (by rw [hD, hZ]; grobner) hE hF hG hH
  rw [Fin.mul_comm G H, Fin.mul_comm F G] at hr
  refine hK9 _ _ ?_
  clear hK9 K9
  refine wp_ret ?_
  refine bodyPost_ret (v := .agg (e77_9)) ?_ rfl ⟨_, rfl, hO9, ⟨_, rfl, _, _, _, _, x77_9, hr⟩⟩
  exact results_cell_row Tryd.results49 _ _ _ 29 _ (0, 0) _ rfl n6_9 Tryd.underlying29 rfl (by first | exact info26 | exact info29 | exact info35 | (rw [(Pt4.cells (by assumption)).1]; exact info29) | (rw [cellsP_size (by assumption)]; exact info29))
theorem cNeg {p : Pt} {v1 : Value} (w w0 : World) (h1 : PtV p v1 w0) : Ret 26 #[v1] w (PtV (p.neg)) := by
  obtain ⟨cs1, rfl, X1, Y1, Z1, T1, h41, hr1⟩ := h1
  unfold Ret
  have hO0 : Below w.heap.size w w := Below.refl _ _
  go_enter Tryd.func26, Tryd.ntmps26
  refine wp_seq_k fun K1 hK1 => ?_
  refine wp_plain_inv 2 (specs [Box w.heap.size (cs1) 29, Box w.heap.size (ptc zeroE zeroE zeroE zeroE) 29]) (specs_stb ⟨Box.stb _ _ _, Box.stb _ _ _, trivial⟩) (by kernel_rfl) ?_ ?_
  · refine ⟨fun a w hB hfr hdep => Step.plain rfl (dBox29 hB.size rfl (hfr 0 (by kernel_rfl)) h41),
      fun a w hB hfr hdep => Step.plain rfl (dAlloc29 hB.size rfl), trivial⟩
  intro u1 hb1
  simp only [List.take, List.drop, FinAll, Act.put, List.setIfInBounds_toArray, List.set_cons_succ, List.set_cons_zero]
  rintro _ ⟨g1_1, rfl, l1_1, m1_1⟩ _ ⟨g2_1, rfl, l2_1, m2_1⟩
  have hO1 := (hO0).trans (hb1.mono (hO0).size)
  have lwm1_1 := Nat.le_trans (hO0).size l1_1
  have lwm2_1 := Nat.le_trans (hO0).size l2_1
  refine hK1 _ _ ?_
  clear hK1 K1
  refine wp_seq_k fun K2 hK2 => ?_
  refine wp_region_inv 11 (specs [Is (.pointer (some ⟨g1_1, 0, none⟩)), El (X1), El (0 - (X1)), Is (.pointer (some ⟨g1_1, 5, none⟩)), El (Y1), Is (.pointer (some ⟨g1_1, 10, none⟩)), El (Z1), Is (.pointer (some ⟨g1_1, 15, none⟩)), El (T1), El (0 - (T1)), Pt4 (0 - (X1)) (Y1) (Z1) (0 - (T1))]) (by kernel_rfl) (specs_stb ⟨Is.stb _, El.stb _, El.stb _, Is.stb _, El.stb _, Is.stb _, El.stb _, Is.stb _, El.stb _, El.stb _, Pt4.stb _ _ _ _, trivial⟩) (by kernel_rfl) ?_ ?_
  · refine ⟨fun a w hB hfr hdep => Step.plain rfl (dFa29 g1_1 0 (by decide) rfl (hfr 1 (by kernel_rfl))),
      fun a w hB hfr hdep => Step.plain rfl (dLoadPart (k := 0) h41 (block_below hB (lt_of_heap m1_1) m1_1) (by decide) rfl (hdep 0 3 (by kernel_rfl)) (fun _ h => h)),
      fun a w hB hfr hdep => Step.plain rfl (Does.call 33 #[(a.eval (.tmp 4))] (by kernel_rfl) (cNegEl w w (hdep 1 4 (by kernel_rfl)))),
      fun a w hB hfr hdep => Step.plain rfl (dFa29 g1_1 1 (by decide) rfl (hfr 1 (by kernel_rfl))),
      fun a w hB hfr hdep => Step.plain rfl (dLoadPart (k := 1) h41 (block_below hB (lt_of_heap m1_1) m1_1) (by decide) rfl (hdep 3 6 (by kernel_rfl)) (fun _ h => h)),
      fun a w hB hfr hdep => Step.plain rfl (dFa29 g1_1 2 (by decide) rfl (hfr 1 (by kernel_rfl))),
      fun a w hB hfr hdep => Step.plain rfl (dLoadPart (k := 2) h41 (block_below hB (lt_of_heap m1_1) m1_1) (by decide) rfl (hdep 5 8 (by kernel_rfl)) (fun _ h => h)),
      fun a w hB hfr hdep => Step.plain rfl (dFa29 g1_1 3 (by decide) rfl (hfr 1 (by kernel_rfl))),
      fun a w hB hfr hdep => Step.plain rfl (dLoadPart (k := 3) h41 (block_below hB (lt_of_heap m1_1) m1_1) (by decide) rfl (hdep 7 10 (by kernel_rfl)) (fun _ h => h)),
      fun a w hB hfr hdep => Step.plain rfl (Does.call 33 #[(a.eval (.tmp 11))] (by kernel_rfl) (cNegEl w w (hdep 8 11 (by kernel_rfl)))),
      fun a w hB hfr hdep => Step.plain rfl (dBuild29 (w1 := w) (w2 := w) (w3 := w) (w4 := w) rfl (hdep 2 5 (by kernel_rfl)) (hdep 4 7 (by kernel_rfl)) (hdep 6 9 (by kernel_rfl)) (hdep 9 12 (by kernel_rfl))), trivial⟩
  intro u2 hb2
  simp only [List.take, List.drop, FinAll, Act.put, List.setIfInBounds_toArray, List.set_cons_succ, List.set_cons_zero]
  rintro _ rfl v4_2 h4_2 v5_2 h5_2 _ rfl v7_2 h7_2 _ rfl v9_2 h9_2 _ rfl v11_2 h11_2 v12_2 h12_2 _ ⟨e13_2, rfl, x13_2⟩
  have om2_1 := block_below hb2 (lt_of_heap m2_1) m2_1
  refine wpList_store_row rfl 29 (.tmp 2) (.tmp 13) rfl _ (e13_2) rfl rfl 29 _ om2_1 (by rw [(Pt4.cells x13_2).1]; exact info29) (by rw [(Pt4.cells x13_2).1]; rfl) (Pt4.cells x13_2).2 ?_
  have n2_2 := setRow_heap _ _ _ (e13_2) _ _ om2_1
  have hO2 := setRow_below (hO1.trans (hb2.mono (hO1).size)) lwm2_1 (e13_2)
  have hr := rep_neg hr1
  have e0 : ∀ z : Fe, 0 - z = -z := fun z => by grobner
  rw [← e0, ← e0] at hr
  refine hK2 _ _ ?_
  clear hK2 K2
  refine wp_ret ?_
  refine bodyPost_ret (v := .agg (e13_2)) ?_ rfl ⟨_, rfl, hO2, ⟨_, rfl, _, _, _, _, x13_2, hr⟩⟩
  exact results_cell_row Tryd.results26 _ _ _ 29 _ (0, 0) _ rfl n2_2 Tryd.underlying29 rfl (by first | exact info26 | exact info29 | exact info35 | (rw [(Pt4.cells (by assumption)).1]; exact info29) | (rw [cellsP_size (by assumption)]; exact info29))
end Go.Proofs.YtpfcboakafbnlaaDoor
set_option linter.unusedVariables false
namespace Go.Proofs.YtpfcboakafbnlaaDoor
open Go.RowKit Go.Sort Go.BigFrame
set_option maxRecDepth 100000
set_option maxHeartbeats 2000000
/-- Nothing but block g has changed, and no block was laid. -/
structure Frm (g : Nat) (w w' : World) : Prop where
  os : w'.os = w.os
  tape : w'.tape = w.tape
  output : w'.output = w.output
  size : w'.heap.size = w.heap.size
  block : ∀ k, k ≠ g → w'.heap[k]? = w.heap[k]?
theorem Frm.refl (g : Nat) (w : World) : Frm g w w := ⟨rfl, rfl, rfl, rfl, fun _ _ => rfl⟩
theorem Frm.trans {g : Nat} {a b c : World} (h : Frm g a b) (h' : Frm g b c) : Frm g a c :=
  ⟨h'.os.trans h.os, h'.tape.trans h.tape, h'.output.trans h.output, h'.size.trans h.size, fun k hk => (h'.block k hk).trans (h.block k hk)⟩
theorem Frm.below {g B : Nat} {w0 w w' : World} (h : Frm g w w') (hb : Below B w0 w) (hg : B ≤ g) : Below B w0 w' :=
  ⟨h.os.trans hb.os, h.tape.trans hb.tape, h.output.trans hb.output, by rw [h.size]; exact hb.size, fun k hk => (h.block k (by omega)).trans (hb.block k hk)⟩
theorem Frm.set {g : Nat} {w w' : World} (h : Frm g w w') (j : Nat) (v : Value) : Frm g w (w'.setCell ⟨g, j, none⟩ v) := by
  have hb : Below g w' (w'.setCell ⟨g, j, none⟩ v) := (Below.refl g w').setCell (p := ⟨g, j, none⟩) (Nat.le_refl g) v
  refine h.trans ⟨hb.os, hb.tape, hb.output, by simp, fun k hk => ?_⟩
  exact heap_setCell_other _ _ _ _ (by simpa using hk)
theorem Frm.drew {g : Nat} {w w' : World} (h : Frm g w w') : Frm g w w'.drew := ⟨h.os, h.tape, h.output, h.size, h.block⟩
/-- Turned round up to k from both ends. -/
def Rvk (l m : List Nat) (k : Nat) : Prop := m.length = 32 ∧ ∀ i, i < 32 → m.getD i 0 = if i < k ∨ 32 ≤ i + k then l.getD (31 - i) 0 else l.getD i 0
theorem getD_set2 (m : List Nat) (i j x : Nat) (hi : i < m.length) : (m.set i x).getD j 0 = if j = i then x else m.getD j 0 := by
  simp only [List.getD_eq_getElem?_getD, List.getElem?_set]
  by_cases h : j = i
  · subst h; simp [hi]
  · simp [h, Ne.symm h]
theorem Rvk.step {l m : List Nat} {k : Nat} (h : Rvk l m k) (hk : k < 16) : Rvk l ((m.set k (m.getD (31 - k) 0)).set (31 - k) (m.getD k 0)) (k + 1) := by
  obtain ⟨hl, hm⟩ := h
  refine ⟨by simp [hl], fun i hi => ?_⟩
  rw [getD_set2 _ _ _ _ (by simp; omega), getD_set2 _ _ _ _ (by omega), hm (31 - k) (by omega), hm k (by omega)]
  by_cases e1 : i = 31 - k
  · rw [if_pos e1, if_neg (by omega), if_pos (by omega), e1]; congr 1; omega
  · rw [if_neg e1]
    by_cases e2 : i = k
    · rw [if_pos e2, if_neg (by omega), if_pos (by omega), e2]
    · rw [if_neg e2, hm i hi]
      by_cases e3 : i < k ∨ 32 ≤ i + k
      · rw [if_pos e3, if_pos (by omega)]
      · rw [if_neg e3, if_neg (by omega)]
theorem Rvk.done {l m : List Nat} (hl : l.length = 32) (h : Rvk l m 16) : m = l.reverse := by
  obtain ⟨hm, h⟩ := h
  apply List.ext_getElem
  · simp [hl, hm]
  · intro i h1 h2
    have := h i (by omega)
    rw [if_pos (by omega)] at this
    rw [List.getElem_reverse]
    simp only [List.getD_eq_getElem?_getD, List.getElem?_eq_getElem h1, Option.getD_some, List.getElem?_eq_getElem (show 31 - i < l.length by omega)] at this
    rw [this]
    congr 1
    omega
theorem Rvk.zero {l : List Nat} (hl : l.length = 32) : Rvk l l 0 := ⟨hl, fun i hi => by rw [if_neg (by omega)]⟩
def RelV (w wr : World) (g : Nat) (l : List Nat) (k : Nat) : Prop := ∃ m, Rvk l m k ∧ Frm g w wr ∧ wr.heap[g]? = some (.cells (ints .u8 m) 5 (0, 0))
theorem reverse74 (g : Nat) (l : List Nat) (w : World) (hl : Hid (l.length = 32)) (hg : w.heap[g]? = some (.cells (ints .u8 l) 5 (0, 0))) :
    Calls Tryd.prog 74 #[.slice (some ⟨g, 0, none⟩) 32 32] w fun e w' => e = .returned (.tuple #[]) ∧ Frm g w w' ∧ w'.heap[g]? = some (.cells (ints .u8 l.reverse) 5 (0, 0)) := by
  have hR0 : RelV w w g l 0 := ⟨l, Rvk.zero hl.out, Frm.refl _ _, hg⟩
  clear hg
  go_enter Tryd.func74, Tryd.ntmps74
  go_wp2_with fail
  go_loopw [2, 3] (fun i j wr => ∃ k : Nat, k ≤ 16 ∧ i = .int .i64 k ∧ j = .int .i64 (31 - (k : Int)) ∧ RelV w wr g l k) (fun i _ _ => 16 - (intOf i).toNat)
  case atStart => exact ⟨0, by omega, rfl, rfl, hR0⟩
  case round =>
    obtain ⟨k, hk, rfl, rfl, m, hm, hF, hrow⟩ := hrel
    clear hR0
    by_cases hlt : k < 16
    · have hml := hm.1
      have ej : (31 - (k : Int)) = ((31 - k : Nat) : Int) := by omega
      have c0 := cell_ints hrow k (by omega)
      have c1 := cell_ints hrow (31 - k) (by omega)
      have f0 := free_ints hrow k
      have f1 := free_ints hrow (31 - k)
      have hs := hm.step hlt
      obtain ⟨x, hx⟩ : ∃ x, x = m.getD k 0 := ⟨_, rfl⟩
      obtain ⟨y, hy⟩ : ∃ y, y = m.getD (31 - k) 0 := ⟨_, rfl⟩
      rw [← hx] at c0 hs
      rw [← hy] at c1 hs
      have HN : Hid (RelV w ((wr.setCell ⟨g, k, none⟩ (.int .u8 (y : Int))).setCell ⟨g, 31 - k, none⟩ (.int .u8 (x : Int))).drew g l (k + 1)) :=
        ⟨_, hs, ((hF.set _ _).set _ _).drew, set_ints (set_ints hrow k y) (31 - k) x⟩
      have HL : Hid (31 - k < 32) := by show _ < _; omega
      obtain ⟨j, hj⟩ : ∃ j, j = 31 - k := ⟨_, rfl⟩
      rw [← hj] at c1 f1 HN ej
      have hj32 : j < 32 := by omega
      have hkj : k < j := by omega
      have ejn : (j : Int) - 1 = 31 - ((k + 1 : Nat) : Int) := by omega
      rw [ej]
      have HEN : Hid ((j : Int) - 1 = 31 - ((k + 1 : Nat) : Int)) := ejn
      clear hx hy hs hj ej hm hF hrow hml ejn
      go_wp2_with fail
      go_region
      go_wp2
      go_roundw
      case rel => exact ⟨k + 1, by omega, by go_num, by rw [← HEN.out], HN.out⟩
      case measure => simp [intOf]; omega
    · obtain rfl : k = 16 := by omega
      have HM : Hid (m = l.reverse) := hm.done hl.out
      clear hm
      go_wp2
      go_end0
      exact ⟨rfl, hF, by rw [← HM.out]; exact hrow⟩
end Go.Proofs.YtpfcboakafbnlaaDoor
set_option linter.unusedVariables false
namespace Go.Proofs.YtpfcboakafbnlaaDoor
open Go.RowKit Go.Sort Go.BigFrame
set_option maxRecDepth 100000
set_option maxHeartbeats 2000000
def CopyFrom (w : World) (a : Option Addr) (rest : List Nat) : Prop := 0 < (ints .u8 rest).toList.length → ∃ ad, a = some ad ∧ ∀ j v, (ints .u8 rest).toList[j]? = some v → w.cell? (ad.add j) = some v
theorem copyFrom {w : World} {a : Option Addr} {rest : List Nat} (hv : View w a rest) : CopyFrom w a rest := by
  intro h0
  obtain ⟨b, off, ha, hc⟩ := hv (by simpa [ints] using h0)
  refine ⟨_, ha, fun j v hj => ?_⟩
  have hj' : j < rest.length := by
    by_cases h : j < rest.length
    · exact h
    · rw [ints_list, List.getElem?_eq_none (by simp; omega)] at hj; cases hj
  rw [Addr.add_mid, hc j hj']
  rw [← hj, ints_list]
  simp [hj']
theorem ints_u8_one (l : List Nat) : ∀ v ∈ (ints .u8 l).toList, v.oneCell' = true := fun v hv => by rw [ints_list] at hv; obtain ⟨x, _, rfl⟩ := List.mem_map.1 hv; rfl
theorem ints_toList_len (l : List Nat) : (ints .u8 l).toList.length = l.length := by simp [ints]
theorem splice_ints (z rest : List Nat) (o : Nat) : (splice (ints .u8 z).toList o (ints .u8 rest).toList).toArray = ints .u8 (z.take o ++ rest ++ z.drop (o + rest.length)) := by
  simp [splice, ints]
theorem turned69 (l : List Nat) (w : World) (hl : l.length = 32) : Ret 69 #[.agg (ints .u8 l)] w (Own w.heap.size l.reverse) := by
  unfold Ret
  have hmk := make32
  have h1 : (Tryd.prog.info? 5).map (·.size) = some 1 := by kernel_rfl
  obtain ⟨va, hva⟩ : ∃ x, x = ints .u8 l := ⟨_, rfl⟩
  have hsv : va.size = 32 := by rw [hva, ints_size, hl]
  have HVA : Hid (va = ints .u8 l) := hva
  have hl' : Hid (l.length = 32) := hl
  rw [← hva]
  clear hva hl
  have hgn : ((w.alloc (.cells va 68)).alloc (.cells (ints .u8 (digs 32 0)) 5)).heap[w.heap.size + 1]? = some (.cells (ints .u8 (digs 32 0)).toList.toArray 5 (0, 0)) := heap_alloc2_new _ _ _
  have hB2 : Below w.heap.size w ((w.alloc (.cells va 68)).alloc (.cells (ints .u8 (digs 32 0)) 5)) := below2 _ _ _
  have hg0 : ((w.alloc (.cells va 68)).alloc (.cells (ints .u8 (digs 32 0)) 5)).heap[w.heap.size]? = some (.cells va 68 (0, 0)) := heap2_0 _ _ _
  have hcl : (ints .u8 l).toList.length = Nat.min 32 32 := by rw [ints_toList_len, hl'.out]; rfl
  have hfit : 0 + (ints .u8 l).toList.length ≤ (ints .u8 (digs 32 0)).toList.length := by rw [ints_toList_len, ints_toList_len, hl'.out, digs_len]; omega
  have hpos : CopyFrom ((w.alloc (.cells va 68)).alloc (.cells (ints .u8 (digs 32 0)) 5)) (some ⟨w.heap.size, 0, none⟩) l := copyFrom (fun _ => ⟨w.heap.size, 0, rfl, by rw [HVA.out] at hg0 ⊢; exact bytes_row hg0⟩)
  go_enter Tryd.func69, Tryd.ntmps69
  go_wp2_with (refine wpList_copy_splice rfl (.tmp 5) (.tmp 6) 22 22 rfl 5 Tryd.underlying22 h1 _ _ _ _ _ _ rfl rfl (w.heap.size + 1) 0 (ints .u8 (digs 32 0)).toList 5 hgn (ints .u8 l).toList hcl (fun h => ⟨rfl, hpos h⟩) hfit (ints_u8_one _) w.heap.size w hB2 (by omega) ?_; intro w2 hw2 hB3)
  have hg2 : w2.heap[w.heap.size + 1]? = some (.cells (ints .u8 l) 5 (0, 0)) := by
    rw [hw2.out, splice_ints]
    have : (digs 32 0).take 0 ++ l ++ (digs 32 0).drop (0 + l.length) = l := by rw [hl'.out]; simp [digs]
    rw [this]
  refine (reverse74 (w.heap.size + 1) l w2 hl' hg2).mono ?_
  rintro e w3 ⟨rfl, hF, hrow⟩
  have hB4 : Below w.heap.size w w3 := hF.below hB3 (by omega)
  have HL : Hid (l.reverse.length = 32) := by show _ = _; rw [List.length_reverse]; exact hl'.out
  clear hg2 hB3 hw2 hpos hfit hcl hg0 hB2 hgn hmk
  go_wp2
  go_ret
  exact ⟨_, rfl, hB4, w.heap.size + 1, by rw [HL.out]; rfl, by omega, hrow⟩
section
variable {ρ : Operand → Value} {o : Oper} {x y z t : Operand} {w : World}
theorem dBox68 {lo : Nat} {l : List Nat} (hlo : lo ≤ w.heap.size) (ho : o.op = .box 68 x) (hx : ρ x = .agg (ints .u8 l)) (hl : l.length = 32) : Does Tryd.prog o ρ w (fun v w' => Below w.heap.size w w' ∧ Box lo (ints .u8 l) 68 v w') := by
  obtain ⟨va, hva⟩ : ∃ x, x = ints .u8 l := ⟨_, rfl⟩
  rw [← hva] at hx ⊢
  exact Does.new _ (.cells va 68) (by simp [execOp, ho, hx, go_sem]) ⟨_, rfl, hlo, heap_alloc_new _ _⟩
theorem dLoad68 {g : Nat} {l : List Nat} (hl : l.length = 32) (h : w.heap[g]? = some (.cells (ints .u8 l) 68 (0, 0))) (ho : o.op = .load 68 x) (hx : ρ x = .pointer (some ⟨g, 0, none⟩)) : Does Tryd.prog o ρ w (fun v w' => Below w.heap.size w w' ∧ Is (.agg (ints .u8 l)) v w') :=
  Does.run _ (loadRow ho hx h Tryd.underlying68 rfl (by rw [ints_size, hl]; exact info68)) rfl
theorem dExt0 {R1 R2 : Value → World → Prop} (ho : o.op = .extract x 0) (h : Tup2 R1 R2 (ρ x) w) : Does Tryd.prog o ρ w (fun v w' => Below w.heap.size w w' ∧ R1 v w') := by
  obtain ⟨v1, v2, hv, h1, h2⟩ := h
  exact Does.run v1 (by simp only [execOp, ho, hv]; kernel_rfl) h1
theorem dExt1 {R1 R2 : Value → World → Prop} (ho : o.op = .extract x 1) (h : Tup2 R1 R2 (ρ x) w) : Does Tryd.prog o ρ w (fun v w' => Below w.heap.size w w' ∧ R2 v w') := by
  obtain ⟨v1, v2, hv, h1, h2⟩ := h
  exact Does.run v2 (by simp only [execOp, ho, hv]; kernel_rfl) h2
end
theorem cTurned {v : Value} {l : List Nat} (w w0 : World) (h : Is (.agg (ints .u8 l)) v w0) (hl : l.length = 32) : Ret 69 #[v] w (Own w.heap.size l.reverse) := by
  have h' : v = .agg (ints .u8 l) := h
  subst h'
  exact turned69 l w hl
theorem ownLo {f : FuncId} {args : Array Value} {w : World} {l : List Nat} {lo : Nat} (hlo : lo ≤ w.heap.size) (h : Ret f args w (Own w.heap.size l)) : Ret f args w (Own lo l) :=
  h.mono fun e w' ⟨v, h1, h2, g, h3, h4, h5⟩ => ⟨v, h1, h2, g, h3, by omega, h5⟩
end Go.Proofs.YtpfcboakafbnlaaDoor
set_option linter.unusedVariables false
namespace Go.Proofs.YtpfcboakafbnlaaDoor
open Go.RowKit Go.Sort Go.BigFrame
set_option maxRecDepth 100000
set_option maxHeartbeats 2000000
theorem known47 (l : List Nat) (w : World) (hl : l.length = 32) (hd : Dig l) (hlt : valD (l.reverse) < pp) : Ret 47 #[.agg (ints .u8 l)] w (El (fe (valD (l.reverse)))) := by
  have hrl : l.reverse.length = 32 := by rw [List.length_reverse]; exact hl
  have hrd : Dig l.reverse := by
    intro j
    by_cases hj : j < l.reverse.length
    · rw [List.getD_eq_getElem?_getD, List.getElem?_eq_getElem hj, Option.getD_some, List.getElem_reverse]
      have := hd (l.length - 1 - j)
      rw [List.getD_eq_getElem?_getD, List.getElem?_eq_getElem (by rw [List.length_reverse] at hj; omega), Option.getD_some] at this
      exact this
    · rw [List.getD_eq_getElem?_getD, List.getElem?_eq_none (by omega)]; decide
  unfold Ret
  have hO0 : Below w.heap.size w w := Below.refl _ _
  go_enter Tryd.func47, Tryd.ntmps47
  refine wp_seq_k fun K1 hK1 => ?_
  refine wp_plain_inv 2 (specs [Box w.heap.size (ints .u8 l) 68, Box w.heap.size (elc zeroE) 27]) (specs_stb ⟨Box.stb _ _ _, Box.stb _ _ _, trivial⟩) (by kernel_rfl) ?_ ?_
  · refine ⟨fun a w hB hfr hdep => Step.plain rfl (dBox68 hB.size rfl (hfr 0 (by kernel_rfl)) hl),
      fun a w hB hfr hdep => Step.plain rfl (dAlloc27 hB.size rfl), trivial⟩
  intro u1 hb1
  simp only [List.take, List.drop, FinAll, Act.put, List.setIfInBounds_toArray, List.set_cons_succ, List.set_cons_zero]
  rintro _ ⟨g1_1, rfl, l1_1, m1_1⟩ _ ⟨g2_1, rfl, l2_1, m2_1⟩
  have hO1 := (hO0).trans (hb1.mono (hO0).size)
  have lwm1_1 := Nat.le_trans (hO0).size l1_1
  have lwm2_1 := Nat.le_trans (hO0).size l2_1
  refine hK1 _ _ ?_
  clear hK1 K1
  refine wp_seq_k fun K2 hK2 => ?_
  refine wp_plain_inv 7 (specs [Is (.agg (ints .u8 l)), Own u1.heap.size (l.reverse), Tup2 (El (fe (valD (l.reverse)))) (Is (.int .i64 0)), Tup2 (El (fe (valD (l.reverse)))) (Is (.int .i64 0)), El (fe (valD (l.reverse))), Is (.int .i64 0), Box u1.heap.size (elc zeroE) 27]) (specs_stb ⟨Is.stb _, Own.stb _ _, Tup2.stb (El.stb _) (Is.stb _), Tup2.stb (El.stb _) (Is.stb _), El.stb _, Is.stb _, Box.stb _ _ _, trivial⟩) (by kernel_rfl) ?_ ?_
  · refine ⟨fun a w hB hfr hdep => Step.plain rfl (dLoad68 hl (block_below hB (lt_of_heap m1_1) m1_1) rfl (hfr 1 (by kernel_rfl))),
      fun a w hB hfr hdep => Step.plain rfl (Does.call 69 #[(a.eval (.tmp 6))] (by kernel_rfl) (ownLo hB.size (cTurned w w (hdep 0 6 (by kernel_rfl)) hl))),
      fun a w hB hfr hdep => Step.plain rfl (Does.call 30 #[(a.eval (.tmp 7))] (by kernel_rfl) (cRead w (Own.bts (hdep 1 7 (by kernel_rfl)) (by omega)) hrl hrd hlt)),
      fun a w hB hfr hdep => Step.plain rfl (dMove (R := Tup2 (El (fe (valD (l.reverse)))) (Is (.int .i64 0))) rfl (hdep 2 8 (by kernel_rfl))),
      fun a w hB hfr hdep => Step.plain rfl (dExt0 rfl (hdep 3 5 (by kernel_rfl))),
      fun a w hB hfr hdep => Step.plain rfl (dExt1 rfl (hdep 3 5 (by kernel_rfl))),
      fun a w hB hfr hdep => Step.plain rfl (dAlloc27 hB.size rfl), trivial⟩
  intro u2 hb2
  simp only [List.take, List.drop, FinAll, Act.put, List.setIfInBounds_toArray, List.set_cons_succ, List.set_cons_zero]
  rintro _ rfl v7_2 h7_2 v8_2 h8_2 v5_2 h5_2 _ ⟨e9_2, q9_2, rfl, x9_2⟩ _ rfl _ ⟨g3_2, rfl, l3_2, m3_2⟩
  refine wpList_store_row rfl 27 (.tmp 3) (.tmp 9) rfl _ (elc e9_2) rfl rfl 27 _ m3_2 info26 rfl (elc_one _) ?_
  have n3_2 := setRow_heap _ _ _ (elc e9_2) _ _ m3_2
  replace hb2 := setRow_below hb2 l3_2 (elc e9_2)
  generalize hw2_1 : u2.setRow g3_2 (elc e9_2) = u2_1 at n3_2 hb2  ⊢
  clear hw2_1 m3_2
  refine wpList_assign rfl rfl rfl ?_
  simp only [Act.put, Act.eval, Array.getD_eq_getD_getElem?, List.getElem?_toArray, List.getElem?_cons_succ, List.getElem?_cons_zero, Option.getD_some, List.setIfInBounds_toArray, List.set_cons_succ, List.set_cons_zero]
  have hO2 := (hO1).trans (hb2.mono (hO1).size)
  have m1_1__2 := block_below hb2 (lt_of_heap m1_1) m1_1
  have m2_1__2 := block_below hb2 (lt_of_heap m2_1) m2_1
  have lwn3_2 := Nat.le_trans (hO1).size l3_2
  refine hK2 _ _ ?_
  clear hK2 K2
  refine wp_seq_k fun K3 hK3 => ?_
  refine wp_plain_inv 1 (specs [El (fe (valD (l.reverse)))]) (specs_stb ⟨El.stb _, trivial⟩) (by kernel_rfl) ?_ ?_
  · refine ⟨fun a w hB hfr hdep => Step.plain rfl (dLoadEl q9_2 x9_2 (block_below hB (lt_of_heap n3_2) n3_2) rfl (hfr 3 (by kernel_rfl)) (fun _ h => h)), trivial⟩
  intro u3 hb3
  simp only [List.take, List.drop, FinAll, Act.put, List.setIfInBounds_toArray, List.set_cons_succ, List.set_cons_zero]
  rintro _ ⟨e11_3, q11_3, rfl, x11_3⟩
  have om2_1__2 := block_below hb3 (lt_of_heap m2_1__2) m2_1__2
  refine wpList_store_row rfl 27 (.tmp 2) (.tmp 11) rfl _ (elc e11_3) rfl rfl 27 _ om2_1__2 info26 rfl (elc_one _) ?_
  have n2_3 := setRow_heap _ _ _ (elc e11_3) _ _ om2_1__2
  have hO3 := setRow_below (hO2.trans (hb3.mono (hO2).size)) lwm2_1 (elc e11_3)
  refine hK3 _ _ ?_
  clear hK3 K3
  refine wp_ret ?_
  refine bodyPost_ret (v := .agg (elc e11_3)) ?_ rfl ⟨_, rfl, hO3, ⟨_, q11_3, rfl, x11_3⟩⟩
  exact results_cell_row Tryd.results47 _ _ _ 27 _ (0, 0) _ rfl n2_3 Tryd.underlying27 rfl (by first | exact info26 | exact info29 | exact info35 | (rw [(Pt4.cells (by assumption)).1]; exact info29) | (rw [cellsP_size (by assumption)]; exact info29))
def tab0 : List Nat := [33, 105, 54, 211, 205, 110, 83, 254, 192, 164, 226, 49, 253, 214, 220, 92, 105, 44, 199, 96, 149, 37, 167, 178, 201, 86, 45, 96, 143, 37, 213, 26]
def tab1 : List Nat := [102, 102, 102, 102, 102, 102, 102, 102, 102, 102, 102, 102, 102, 102, 102, 102, 102, 102, 102, 102, 102, 102, 102, 102, 102, 102, 102, 102, 102, 102, 102, 88]
def tab2 : List Nat := [82, 3, 108, 238, 43, 111, 254, 115, 140, 199, 64, 121, 119, 121, 232, 152, 0, 112, 10, 77, 65, 65, 216, 171, 117, 235, 77, 202, 19, 89, 120, 163]
def tab3 : List Nat := [15, 255, 255, 255, 255, 255, 255, 255, 255, 255, 255, 255, 255, 255, 255, 255, 255, 255, 255, 255, 255, 255, 255, 255, 255, 255, 255, 255, 255, 255, 255, 254]
def tab4 : List Nat := [43, 131, 36, 128, 79, 193, 223, 11, 43, 77, 0, 153, 61, 251, 215, 167, 47, 67, 24, 6, 173, 47, 228, 120, 196, 238, 27, 39, 74, 14, 160, 176]
/-- The known numbers lie in memory. -/
structure Tab (w : World) : Prop where
  t0 : BytesAt w 0 0 tab0
  t1 : BytesAt w 1 0 tab1
  t2 : BytesAt w 2 0 tab2
structure Tab5 (w : World) : Prop extends Tab w where
  t3 : BytesAt w 3 0 tab3
  t4 : BytesAt w 4 0 tab4
theorem bytesAt_below {w w' : World} {b : Nat} {l : List Nat} (h : BytesAt w b 0 l) (h0 : 0 < l.length) (hb : Below w.heap.size w w') : BytesAt w' b 0 l := h.below hb (block_lt_of_cell (h 0 h0))
theorem Tab.below {w w' : World} (h : Tab w) (hb : Below w.heap.size w w') : Tab w' := ⟨bytesAt_below h.t0 (by decide) hb, bytesAt_below h.t1 (by decide) hb, bytesAt_below h.t2 (by decide) hb⟩
theorem Tab5.below {w w' : World} (h : Tab5 w) (hb : Below w.heap.size w w') : Tab5 w' := ⟨h.toTab.below hb, bytesAt_below h.t3 (by decide) hb, bytesAt_below h.t4 (by decide) hb⟩
theorem dLoadTab {ρ : Operand → Value} {o : Oper} {w : World} {k : Nat} {l : List Nat} (h : BytesAt w k 0 l) (hl : l.length = 32) (ho : o.op = .load 68 (.global k)) (hx : ρ (.global k) = .pointer (some ⟨k, 0, none⟩)) : Does Tryd.prog o ρ w (fun v w' => Below w.heap.size w w' ∧ Is (.agg (ints .u8 l)) v w') := by
  have hr : w.rangeAt k 0 (ints .u8 l).toList := fun j v hv => by
    have hj : j < l.length := by
      have := (List.getElem?_eq_some_iff.1 hv).1
      rwa [ints_toList_len] at this
    rw [h j hj]
    rw [ints_list] at hv
    simp [hj] at hv
    simp [hj, hv]
  have hi : (Tryd.prog.info? 68).map (·.size) = some (ints .u8 l).toList.length := by rw [ints_toList_len, hl]; exact info68
  refine Does.run _ ?_ rfl
  unfold execOp
  simp only [ho, hx, Instr.loadAt, Instr.sureAddr, Sem.run_bind, Sem.run_pure, Result.andThen_ok, run_loadVar_mid w k 0 68 (ints .u8 l).toList _ hr Tryd.underlying68 rfl hi]
theorem cKnown {v : Value} {l : List Nat} {X : Fe} (w w0 : World) (h : Is (.agg (ints .u8 l)) v w0) (hl : l.length = 32) (hd : Dig l) (hlt : valD (l.reverse) < pp) (hX : fe (valD l.reverse) = X) : Ret 47 #[v] w (El X) := by
  have h' : v = .agg (ints .u8 l) := h
  subst h' hX
  exact known47 l w hl hd hlt
theorem dig_lt {l : List Nat} (h : ∀ x ∈ l, x < 256) : Dig l := fun j => by
  by_cases hj : j < l.length
  · have := h l[j] (List.getElem_mem hj)
    simpa [hj] using this
  · rw [List.getD_eq_getElem?_getD, List.getElem?_eq_none (by omega)]; decide
theorem tab0_dig : Dig tab0 := dig_lt (by decide)
theorem tab1_dig : Dig tab1 := dig_lt (by decide)
theorem tab2_dig : Dig tab2 := dig_lt (by decide)
theorem tab3_dig : Dig tab3 := dig_lt (by decide)
theorem tab4_dig : Dig tab4 := dig_lt (by decide)
theorem tab0_val : fe (valD tab0.reverse) = bp.x := by decide
theorem tab1_val : fe (valD tab1.reverse) = bp.y := by decide
theorem tab2_val : fe (valD tab2.reverse) = dd := by decide
theorem tab4_val : fe (valD tab4.reverse) = ii := by decide
theorem cTwiceD (w : World) (hT : Tab w) : Ret 48 #[] w (El (dd + dd)) := by
  unfold Ret
  have hO0 : Below w.heap.size w w := Below.refl _ _
  go_enter Tryd.func48, Tryd.ntmps48
  refine wp_seq_k fun K1 hK1 => ?_
  refine wp_plain_inv 1 (specs [Box w.heap.size (elc zeroE) 27]) (specs_stb ⟨Box.stb _ _ _, trivial⟩) (by kernel_rfl) ?_ ?_
  · refine ⟨fun a w hB hfr hdep => Step.plain rfl (dAlloc27 hB.size rfl), trivial⟩
  intro u1 hb1
  simp only [List.take, List.drop, FinAll, Act.put, List.setIfInBounds_toArray, List.set_cons_zero]
  rintro _ ⟨g0_1, rfl, l0_1, m0_1⟩
  have hO1 := (hO0).trans (hb1.mono (hO0).size)
  have lwm0_1 := Nat.le_trans (hO0).size l0_1
  have hT1 := Tab.below hT hb1
  refine hK1 _ _ ?_
  clear hK1 K1
  refine wp_seq_k fun K2 hK2 => ?_
  refine wp_plain_inv 3 (specs [Is (.agg (ints .u8 tab2)), El (dd), Box u1.heap.size (elc zeroE) 27]) (specs_stb ⟨Is.stb _, El.stb _, Box.stb _ _ _, trivial⟩) (by kernel_rfl) ?_ ?_
  · refine ⟨fun a w hB hfr hdep => Step.plain rfl (dLoadTab (Tab.below hT1 hB).t2 rfl rfl rfl),
      fun a w hB hfr hdep => Step.plain rfl (Does.call 47 #[(a.eval (.tmp 2))] (by kernel_rfl) (cKnown w w (hdep 0 2 (by kernel_rfl)) rfl tab2_dig (by decide) tab2_val)),
      fun a w hB hfr hdep => Step.plain rfl (dAlloc27 hB.size rfl), trivial⟩
  intro u2 hb2
  simp only [List.take, List.drop, FinAll, Act.put, List.setIfInBounds_toArray, List.set_cons_succ, List.set_cons_zero]
  rintro _ rfl _ ⟨e3_2, q3_2, rfl, x3_2⟩ _ ⟨g1_2, rfl, l1_2, m1_2⟩
  refine wpList_store_row rfl 27 (.tmp 1) (.tmp 3) rfl _ (elc e3_2) rfl rfl 27 _ m1_2 info26 rfl (elc_one _) ?_
  have n1_2 := setRow_heap _ _ _ (elc e3_2) _ _ m1_2
  replace hb2 := setRow_below hb2 l1_2 (elc e3_2)
  generalize hw2_1 : u2.setRow g1_2 (elc e3_2) = u2_1 at n1_2 hb2  ⊢
  clear hw2_1 m1_2
  have hO2 := (hO1).trans (hb2.mono (hO1).size)
  have m0_1__2 := block_below hb2 (lt_of_heap m0_1) m0_1
  have lwn1_2 := Nat.le_trans (hO1).size l1_2
  have hT2 := Tab.below hT1 hb2
  refine hK2 _ _ ?_
  clear hK2 K2
  refine wp_seq_k fun K3 hK3 => ?_
  refine wp_plain_inv 3 (specs [El (dd), El (dd), El ((dd) + (dd))]) (specs_stb ⟨El.stb _, El.stb _, El.stb _, trivial⟩) (by kernel_rfl) ?_ ?_
  · refine ⟨fun a w hB hfr hdep => Step.plain rfl (dLoadEl q3_2 x3_2 (block_below hB (lt_of_heap n1_2) n1_2) rfl (hfr 1 (by kernel_rfl)) (fun _ h => h)),
      fun a w hB hfr hdep => Step.plain rfl (dLoadEl q3_2 x3_2 (block_below hB (lt_of_heap n1_2) n1_2) rfl (hfr 1 (by kernel_rfl)) (fun _ h => h)),
      fun a w hB hfr hdep => Step.plain rfl (Does.call 56 #[(a.eval (.tmp 4)), (a.eval (.tmp 5))] (by kernel_rfl) (cAdd w w w (hdep 0 4 (by kernel_rfl)) (hdep 1 5 (by kernel_rfl)))), trivial⟩
  intro u3 hb3
  simp only [List.take, List.drop, FinAll, Act.put, List.setIfInBounds_toArray, List.set_cons_succ, List.set_cons_zero]
  rintro v4_3 h4_3 v5_3 h5_3 _ ⟨e6_3, q6_3, rfl, x6_3⟩
  have om0_1__2 := block_below hb3 (lt_of_heap m0_1__2) m0_1__2
  refine wpList_store_row rfl 27 (.tmp 0) (.tmp 6) rfl _ (elc e6_3) rfl rfl 27 _ om0_1__2 info26 rfl (elc_one _) ?_
  have n0_3 := setRow_heap _ _ _ (elc e6_3) _ _ om0_1__2
  have hO3 := setRow_below (hO2.trans (hb3.mono (hO2).size)) lwm0_1 (elc e6_3)
  refine hK3 _ _ ?_
  clear hK3 K3
  refine wp_ret ?_
  refine bodyPost_ret (v := .agg (elc e6_3)) ?_ rfl ⟨_, rfl, hO3, ⟨_, q6_3, rfl, x6_3⟩⟩
  exact results_cell_row Tryd.results48 _ _ _ 27 _ (0, 0) _ rfl n0_3 Tryd.underlying27 rfl (by first | exact info26 | exact info29 | exact info35 | (rw [(Pt4.cells (by assumption)).1]; exact info29) | (rw [cellsP_size (by assumption)]; exact info29))
theorem cZero (w : World) : Ret 25 #[] w (PtV Pt.zero) := by
  unfold Ret
  have hO0 : Below w.heap.size w w := Below.refl _ _
  go_enter Tryd.func25, Tryd.ntmps25
  refine wp_seq_k fun K1 hK1 => ?_
  refine wp_plain_inv 1 (specs [Box w.heap.size (ptc zeroE zeroE zeroE zeroE) 29]) (specs_stb ⟨Box.stb _ _ _, trivial⟩) (by kernel_rfl) ?_ ?_
  · refine ⟨fun a w hB hfr hdep => Step.plain rfl (dAlloc29 hB.size rfl), trivial⟩
  intro u1 hb1
  simp only [List.take, List.drop, FinAll, Act.put, List.setIfInBounds_toArray, List.set_cons_zero]
  rintro _ ⟨g0_1, rfl, l0_1, m0_1⟩
  have hO1 := (hO0).trans (hb1.mono (hO0).size)
  have lwm0_1 := Nat.le_trans (hO0).size l0_1
  refine hK1 _ _ ?_
  clear hK1 K1
  refine wp_seq_k fun K2 hK2 => ?_
  refine wp_plain_inv 3 (specs [El (0), El (1), Pt4 (0) (1) (1) ((0) * (1))]) (specs_stb ⟨El.stb _, El.stb _, Pt4.stb _ _ _ _, trivial⟩) (by kernel_rfl) ?_ ?_
  · refine ⟨fun a w hB hfr hdep => Step.plain rfl (Does.call 53 #[.int .i64 0] (by kernel_rfl) (cInt0 w)),
      fun a w hB hfr hdep => Step.plain rfl (Does.call 53 #[.int .i64 1] (by kernel_rfl) (cInt1 w)),
      fun a w hB hfr hdep => Step.plain rfl (Does.call 34 #[(a.eval (.tmp 1)), (a.eval (.tmp 2))] (by kernel_rfl) (cOfPair w w w (hdep 0 1 (by kernel_rfl)) (hdep 1 2 (by kernel_rfl)))), trivial⟩
  intro u2 hb2
  simp only [List.take, List.drop, FinAll, Act.put, List.setIfInBounds_toArray, List.set_cons_succ, List.set_cons_zero]
  rintro v1_2 h1_2 v2_2 h2_2 _ ⟨e3_2, rfl, x3_2⟩
  have om0_1 := block_below hb2 (lt_of_heap m0_1) m0_1
  refine wpList_store_row rfl 29 (.tmp 0) (.tmp 3) rfl _ (e3_2) rfl rfl 29 _ om0_1 (by rw [(Pt4.cells x3_2).1]; exact info29) (by rw [(Pt4.cells x3_2).1]; rfl) (Pt4.cells x3_2).2 ?_
  have n0_2 := setRow_heap _ _ _ (e3_2) _ _ om0_1
  have hO2 := setRow_below (hO1.trans (hb2.mono (hO1).size)) lwm0_1 (e3_2)
  refine hK2 _ _ ?_
  clear hK2 K2
  refine wp_ret ?_
  refine bodyPost_ret (v := .agg (e3_2)) ?_ rfl ⟨_, rfl, hO2, ⟨_, rfl, _, _, _, _, x3_2, rep_aff Pt.zero⟩⟩
  exact results_cell_row Tryd.results25 _ _ _ 29 _ (0, 0) _ rfl n0_2 Tryd.underlying29 rfl (by first | exact info26 | exact info29 | exact info35 | (rw [(Pt4.cells (by assumption)).1]; exact info29) | (rw [cellsP_size (by assumption)]; exact info29))
theorem cBase (w : World) (hT : Tab w) : Ret 16 #[] w (PtV bp) := by
  unfold Ret
  have hO0 : Below w.heap.size w w := Below.refl _ _
  go_enter Tryd.func16, Tryd.ntmps16
  refine wp_seq_k fun K1 hK1 => ?_
  refine wp_plain_inv 1 (specs [Box w.heap.size (ptc zeroE zeroE zeroE zeroE) 29]) (specs_stb ⟨Box.stb _ _ _, trivial⟩) (by kernel_rfl) ?_ ?_
  · refine ⟨fun a w hB hfr hdep => Step.plain rfl (dAlloc29 hB.size rfl), trivial⟩
  intro u1 hb1
  simp only [List.take, List.drop, FinAll, Act.put, List.setIfInBounds_toArray, List.set_cons_zero]
  rintro _ ⟨g0_1, rfl, l0_1, m0_1⟩
  have hO1 := (hO0).trans (hb1.mono (hO0).size)
  have lwm0_1 := Nat.le_trans (hO0).size l0_1
  have hT1 := Tab.below hT hb1
  refine hK1 _ _ ?_
  clear hK1 K1
  refine wp_seq_k fun K2 hK2 => ?_
  refine wp_region_inv 5 (specs [Is (.agg (ints .u8 tab0)), El (bp.x), Is (.agg (ints .u8 tab1)), El (bp.y), Pt4 (bp.x) (bp.y) (1) ((bp.x) * (bp.y))]) (by kernel_rfl) (specs_stb ⟨Is.stb _, El.stb _, Is.stb _, El.stb _, Pt4.stb _ _ _ _, trivial⟩) (by kernel_rfl) ?_ ?_
  · refine ⟨fun a w hB hfr hdep => Step.plain rfl (dLoadTab (Tab.below hT1 hB).t0 rfl rfl rfl),
      fun a w hB hfr hdep => Step.plain rfl (Does.call 47 #[(a.eval (.tmp 1))] (by kernel_rfl) (cKnown w w (hdep 0 1 (by kernel_rfl)) rfl tab0_dig (by decide) tab0_val)),
      fun a w hB hfr hdep => Step.plain rfl (dLoadTab (Tab.below hT1 hB).t1 rfl rfl rfl),
      fun a w hB hfr hdep => Step.plain rfl (Does.call 47 #[(a.eval (.tmp 3))] (by kernel_rfl) (cKnown w w (hdep 2 3 (by kernel_rfl)) rfl tab1_dig (by decide) tab1_val)),
      fun a w hB hfr hdep => Step.plain rfl (Does.call 34 #[(a.eval (.tmp 2)), (a.eval (.tmp 4))] (by kernel_rfl) (cOfPair w w w (hdep 1 2 (by kernel_rfl)) (hdep 3 4 (by kernel_rfl)))), trivial⟩
  intro u2 hb2
  simp only [List.take, List.drop, FinAll, Act.put, List.setIfInBounds_toArray, List.set_cons_succ, List.set_cons_zero]
  rintro _ rfl v2_2 h2_2 _ rfl v4_2 h4_2 _ ⟨e5_2, rfl, x5_2⟩
  have om0_1 := block_below hb2 (lt_of_heap m0_1) m0_1
  refine wpList_store_row rfl 29 (.tmp 0) (.tmp 5) rfl _ (e5_2) rfl rfl 29 _ om0_1 (by rw [(Pt4.cells x5_2).1]; exact info29) (by rw [(Pt4.cells x5_2).1]; rfl) (Pt4.cells x5_2).2 ?_
  have n0_2 := setRow_heap _ _ _ (e5_2) _ _ om0_1
  have hO2 := setRow_below (hO1.trans (hb2.mono (hO1).size)) lwm0_1 (e5_2)
  refine hK2 _ _ ?_
  clear hK2 K2
  refine wp_ret ?_
  refine bodyPost_ret (v := .agg (e5_2)) ?_ rfl ⟨_, rfl, hO2, ⟨_, rfl, _, _, _, _, x5_2, rep_aff bp⟩⟩
  exact results_cell_row Tryd.results16 _ _ _ 29 _ (0, 0) _ rfl n0_2 Tryd.underlying29 rfl (by first | exact info26 | exact info29 | exact info35 | (rw [(Pt4.cells (by assumption)).1]; exact info29) | (rw [cellsP_size (by assumption)]; exact info29))
theorem cPAdd {p q : Pt} {v1 v2 : Value} (w w0 w1 : World) (hT : Tab w) (h1 : PtV p v1 w0) (h2 : PtV q v2 w1) : Ret 19 #[v1, v2] w (PtV (p.add q)) := by
  obtain ⟨cs1, rfl, hp1⟩ := h1
  obtain ⟨cs2, rfl, hp2⟩ := h2
  obtain ⟨X1, Y1, Z1, T1, h41, hr1⟩ := id hp1
  obtain ⟨X2, Y2, Z2, T2, h42, hr2⟩ := id hp2
  unfold Ret
  have hO0 : Below w.heap.size w w := Below.refl _ _
  go_enter Tryd.func19, Tryd.ntmps19
  refine wp_seq_k fun K1 hK1 => ?_
  refine wp_plain_inv 3 (specs [Box w.heap.size (cs1) 29, Box w.heap.size (cs2) 29, Box w.heap.size (ptc zeroE zeroE zeroE zeroE) 29]) (specs_stb ⟨Box.stb _ _ _, Box.stb _ _ _, Box.stb _ _ _, trivial⟩) (by kernel_rfl) ?_ ?_
  · refine ⟨fun a w hB hfr hdep => Step.plain rfl (dBox29 hB.size rfl (hfr 0 (by kernel_rfl)) h41),
      fun a w hB hfr hdep => Step.plain rfl (dBox29 hB.size rfl (hfr 1 (by kernel_rfl)) h42),
      fun a w hB hfr hdep => Step.plain rfl (dAlloc29 hB.size rfl), trivial⟩
  intro u1 hb1
  simp only [List.take, List.drop, FinAll, Act.put, List.setIfInBounds_toArray, List.set_cons_succ, List.set_cons_zero]
  rintro _ ⟨g2_1, rfl, l2_1, m2_1⟩ _ ⟨g3_1, rfl, l3_1, m3_1⟩ _ ⟨g4_1, rfl, l4_1, m4_1⟩
  have hO1 := (hO0).trans (hb1.mono (hO0).size)
  have lwm2_1 := Nat.le_trans (hO0).size l2_1
  have lwm3_1 := Nat.le_trans (hO0).size l3_1
  have lwm4_1 := Nat.le_trans (hO0).size l4_1
  have hT1 := Tab.below hT hb1
  refine hK1 _ _ ?_
  clear hK1 K1
  refine wp_seq_k fun K2 hK2 => ?_
  refine wp_region_inv 4 (specs [PtV (p), PtV (q), El (dd + dd), PtV ((p).add (q))]) (by kernel_rfl) (specs_stb ⟨PtV.stb _, PtV.stb _, El.stb _, PtV.stb _, trivial⟩) (by kernel_rfl) ?_ ?_
  · refine ⟨fun a w hB hfr hdep => Step.plain rfl (dLoadPt hp1 (block_below hB (lt_of_heap m2_1) m2_1) rfl (hfr 2 (by kernel_rfl)) (fun _ h => h)),
      fun a w hB hfr hdep => Step.plain rfl (dLoadPt hp2 (block_below hB (lt_of_heap m3_1) m3_1) rfl (hfr 3 (by kernel_rfl)) (fun _ h => h)),
      fun a w hB hfr hdep => Step.plain rfl (Does.call 48 #[] (by kernel_rfl) (cTwiceD w (Tab.below hT1 hB))),
      fun a w hB hfr hdep => Step.plain rfl (Does.call 49 #[(a.eval (.tmp 5)), (a.eval (.tmp 6)), (a.eval (.tmp 7))] (by kernel_rfl) (cPlus w w w w (hdep 0 5 (by kernel_rfl)) (hdep 1 6 (by kernel_rfl)) (hdep 2 7 (by kernel_rfl)))), trivial⟩
  intro u2 hb2
  simp only [List.take, List.drop, FinAll, Act.put, List.setIfInBounds_toArray, List.set_cons_succ, List.set_cons_zero]
  rintro v5_2 h5_2 v6_2 h6_2 v7_2 h7_2 _ ⟨e8_2, rfl, x8_2⟩
  have om4_1 := block_below hb2 (lt_of_heap m4_1) m4_1
  refine wpList_store_row rfl 29 (.tmp 4) (.tmp 8) rfl _ (e8_2) rfl rfl 29 _ om4_1 (by rw [cellsP_size x8_2]; exact info29) (by rw [cellsP_size x8_2]; rfl) (cellsP_one x8_2) ?_
  have n4_2 := setRow_heap _ _ _ (e8_2) _ _ om4_1
  have hO2 := setRow_below (hO1.trans (hb2.mono (hO1).size)) lwm4_1 (e8_2)
  refine hK2 _ _ ?_
  clear hK2 K2
  refine wp_ret ?_
  refine bodyPost_ret (v := .agg (e8_2)) ?_ rfl ⟨_, rfl, hO2, ⟨_, rfl, x8_2⟩⟩
  exact results_cell_row Tryd.results19 _ _ _ 29 _ (0, 0) _ rfl n4_2 Tryd.underlying29 rfl (by first | exact info26 | exact info29 | exact info35 | (rw [(Pt4.cells (by assumption)).1]; exact info29) | (rw [cellsP_size (by assumption)]; exact info29))
end Go.Proofs.YtpfcboakafbnlaaDoor
set_option linter.unusedVariables false
namespace Go.Proofs.YtpfcboakafbnlaaDoor
open Go.RowKit Go.Sort Go.BigFrame
set_option maxRecDepth 100000
set_option maxHeartbeats 2000000
section
variable {ρ : Operand → Value} {o : Oper} {x y z t : Operand} {w : World}
theorem dPickT {R : Value → World → Prop} (ho : o.op = .pick x y z) (hx : ρ x = .bool true) (h : R (ρ y) w) : Does Tryd.prog o ρ w (fun v w' => Below w.heap.size w w' ∧ R v w') :=
  Does.run _ (by simp only [execOp, ho, hx]; kernel_rfl) h
theorem dPickF {R : Value → World → Prop} (ho : o.op = .pick x y z) (hx : ρ x = .bool false) (h : R (ρ z) w) : Does Tryd.prog o ρ w (fun v w' => Below w.heap.size w w' ∧ R v w') :=
  Does.run _ (by simp only [execOp, ho, hx]; kernel_rfl) h
theorem run_notO {b : Bool} (ho : o.op = .unOp .not 4 x) (hx : ρ x = .bool b) : (execOp ρ o).run Tryd.prog w = .ok (.value (.bool (!b))) w := by
  simp only [execOp, ho, hx]
  cases b <;> kernel_rfl
end
theorem cEqT {x y : Fe} (h : x = y) {v1 v2 : Value} (w w0 w1 : World) (h1 : El x v1 w0) (h2 : El y v2 w1) : Ret 52 #[v1, v2] w (Is (.bool true)) := by
  have := cEq w w0 w1 h1 h2
  rwa [decide_eq_true h] at this
theorem cEqF {x y : Fe} (h : ¬ x = y) {v1 v2 : Value} (w w0 w1 : World) (h1 : El x v1 w0) (h2 : El y v2 w1) : Ret 52 #[v1, v2] w (Is (.bool false)) := by
  have := cEq w w0 w1 h1 h2
  rwa [decide_eq_false h] at this
theorem cPEq {p q : Pt} {b : Bool} (hb : p = q ↔ b = true) {v1 v2 : Value} (w w0 w1 : World) (h1 : PtV p v1 w0) (h2 : PtV q v2 w1) : Ret 24 #[v1, v2] w (Is (.bool b)) := by
  obtain ⟨cs1, rfl, X1, Y1, Z1, T1, h41, hr1⟩ := h1
  obtain ⟨cs2, rfl, X2, Y2, Z2, T2, h42, hr2⟩ := h2
  have hs := rep_same hr1 hr2
  rw [hb] at hs
  unfold Ret
  by_cases hx : (X1) * (Z2) = (X2) * (Z1)
  · have hfin : ∀ w', Is (.bool b) (.bool (decide ((Y1) * (Z2) = (Y2) * (Z1)))) w' := fun _ => by
      refine congrArg Value.bool ?_
      rw [Bool.eq_iff_iff, decide_eq_true_iff, hs]
      exact ⟨fun h => ⟨hx, h⟩, fun h => h.2⟩
    have hO0 : Below w.heap.size w w := Below.refl _ _
    go_enter Tryd.func24, Tryd.ntmps24
    refine wp_seq_k fun K1 hK1 => ?_
    refine wp_plain_inv 3 (specs [Box w.heap.size (cs1) 29, Box w.heap.size (cs2) 29, Is (.bool false)]) (specs_stb ⟨Box.stb _ _ _, Box.stb _ _ _, Is.stb _, trivial⟩) (by kernel_rfl) ?_ ?_
    · refine ⟨fun a w hB hfr hdep => Step.plain rfl (dBox29 hB.size rfl (hfr 0 (by kernel_rfl)) h41),
        fun a w hB hfr hdep => Step.plain rfl (dBox29 hB.size rfl (hfr 1 (by kernel_rfl)) h42),
        fun a w hB hfr hdep => Step.plain rfl (dAssign (R := Is (.bool false)) rfl rfl), trivial⟩
    intro u1 hb1
    simp only [List.take, List.drop, FinAll, Act.put, List.setIfInBounds_toArray, List.set_cons_succ, List.set_cons_zero]
    rintro _ ⟨g2_1, rfl, l2_1, m2_1⟩ _ ⟨g3_1, rfl, l3_1, m3_1⟩ _ rfl
    have hO1 := (hO0).trans (hb1.mono (hO0).size)
    have lwm2_1 := Nat.le_trans (hO0).size l2_1
    have lwm3_1 := Nat.le_trans (hO0).size l3_1
    refine hK1 _ _ ?_
    clear hK1 K1
    refine wp_seq_k fun K2 hK2 => ?_
    refine wp_region_inv 25 (specs [Is (.pointer (some ⟨g2_1, 0, none⟩)), El (X1), Is (.pointer (some ⟨g3_1, 10, none⟩)), El (Z2), El ((X1) * (Z2)), Is (.pointer (some ⟨g3_1, 0, none⟩)), El (X2), Is (.pointer (some ⟨g2_1, 10, none⟩)), El (Z1), El ((X2) * (Z1)), Is (.bool true), Is (.bool true), Is (.pointer (some ⟨g2_1, 5, none⟩)), El (Y1), Is (.pointer (some ⟨g3_1, 10, none⟩)), El (Z2), El ((Y1) * (Z2)), Is (.pointer (some ⟨g3_1, 5, none⟩)), El (Y2), Is (.pointer (some ⟨g2_1, 10, none⟩)), El (Z1), El ((Y2) * (Z1)), Is (.bool (decide (((Y1) * (Z2)) = ((Y2) * (Z1))))), Is (.bool (decide (((Y1) * (Z2)) = ((Y2) * (Z1))))), Is (.bool (decide (((Y1) * (Z2)) = ((Y2) * (Z1)))))]) (by kernel_rfl) (specs_stb ⟨Is.stb _, El.stb _, Is.stb _, El.stb _, El.stb _, Is.stb _, El.stb _, Is.stb _, El.stb _, El.stb _, Is.stb _, Is.stb _, Is.stb _, El.stb _, Is.stb _, El.stb _, El.stb _, Is.stb _, El.stb _, Is.stb _, El.stb _, El.stb _, Is.stb _, Is.stb _, Is.stb _, trivial⟩) (by kernel_rfl) ?_ ?_
    · refine ⟨fun a w hB hfr hdep => Step.plain rfl (dFa29 g2_1 0 (by decide) rfl (hfr 2 (by kernel_rfl))),
        fun a w hB hfr hdep => Step.plain rfl (dLoadPart (k := 0) h41 (block_below hB (lt_of_heap m2_1) m2_1) (by decide) rfl (hdep 0 5 (by kernel_rfl)) (fun _ h => h)),
        fun a w hB hfr hdep => Step.plain rfl (dFa29 g3_1 2 (by decide) rfl (hfr 3 (by kernel_rfl))),
        fun a w hB hfr hdep => Step.plain rfl (dLoadPart (k := 2) h42 (block_below hB (lt_of_heap m3_1) m3_1) (by decide) rfl (hdep 2 7 (by kernel_rfl)) (fun _ h => h)),
        fun a w hB hfr hdep => Step.plain rfl (Does.call 39 #[(a.eval (.tmp 6)), (a.eval (.tmp 8))] (by kernel_rfl) (cMul w w w (hdep 1 6 (by kernel_rfl)) (hdep 3 8 (by kernel_rfl)))),
        fun a w hB hfr hdep => Step.plain rfl (dFa29 g3_1 0 (by decide) rfl (hfr 3 (by kernel_rfl))),
        fun a w hB hfr hdep => Step.plain rfl (dLoadPart (k := 0) h42 (block_below hB (lt_of_heap m3_1) m3_1) (by decide) rfl (hdep 5 10 (by kernel_rfl)) (fun _ h => h)),
        fun a w hB hfr hdep => Step.plain rfl (dFa29 g2_1 2 (by decide) rfl (hfr 2 (by kernel_rfl))),
        fun a w hB hfr hdep => Step.plain rfl (dLoadPart (k := 2) h41 (block_below hB (lt_of_heap m2_1) m2_1) (by decide) rfl (hdep 7 12 (by kernel_rfl)) (fun _ h => h)),
        fun a w hB hfr hdep => Step.plain rfl (Does.call 39 #[(a.eval (.tmp 11)), (a.eval (.tmp 13))] (by kernel_rfl) (cMul w w w (hdep 6 11 (by kernel_rfl)) (hdep 8 13 (by kernel_rfl)))),
        fun a w hB hfr hdep => Step.plain rfl (Does.call 52 #[(a.eval (.tmp 9)), (a.eval (.tmp 14))] (by kernel_rfl) (cEqT hx w w w (hdep 4 9 (by kernel_rfl)) (hdep 9 14 (by kernel_rfl)))),
        fun a w hB hfr hdep => Step.plain rfl (dMove (R := Is (.bool true)) rfl (hdep 10 15 (by kernel_rfl))),
        fun a w hB hfr hdep => Step.yes 11 16 true rfl rfl (hdep 11 16 (by kernel_rfl)) (dFa29 g2_1 1 (by decide) rfl (hfr 2 (by kernel_rfl))),
        fun a w hB hfr hdep => Step.yes 11 16 true rfl rfl (hdep 11 16 (by kernel_rfl)) (dLoadPart (k := 1) h41 (block_below hB (lt_of_heap m2_1) m2_1) (by decide) rfl (hdep 12 17 (by kernel_rfl)) (fun _ h => h)),
        fun a w hB hfr hdep => Step.yes 11 16 true rfl rfl (hdep 11 16 (by kernel_rfl)) (dFa29 g3_1 2 (by decide) rfl (hfr 3 (by kernel_rfl))),
        fun a w hB hfr hdep => Step.yes 11 16 true rfl rfl (hdep 11 16 (by kernel_rfl)) (dLoadPart (k := 2) h42 (block_below hB (lt_of_heap m3_1) m3_1) (by decide) rfl (hdep 14 19 (by kernel_rfl)) (fun _ h => h)),
        fun a w hB hfr hdep => Step.yes 11 16 true rfl rfl (hdep 11 16 (by kernel_rfl)) (Does.call 39 #[(a.eval (.tmp 18)), (a.eval (.tmp 20))] (by kernel_rfl) (cMul w w w (hdep 13 18 (by kernel_rfl)) (hdep 15 20 (by kernel_rfl)))),
        fun a w hB hfr hdep => Step.yes 11 16 true rfl rfl (hdep 11 16 (by kernel_rfl)) (dFa29 g3_1 1 (by decide) rfl (hfr 3 (by kernel_rfl))),
        fun a w hB hfr hdep => Step.yes 11 16 true rfl rfl (hdep 11 16 (by kernel_rfl)) (dLoadPart (k := 1) h42 (block_below hB (lt_of_heap m3_1) m3_1) (by decide) rfl (hdep 17 22 (by kernel_rfl)) (fun _ h => h)),
        fun a w hB hfr hdep => Step.yes 11 16 true rfl rfl (hdep 11 16 (by kernel_rfl)) (dFa29 g2_1 2 (by decide) rfl (hfr 2 (by kernel_rfl))),
        fun a w hB hfr hdep => Step.yes 11 16 true rfl rfl (hdep 11 16 (by kernel_rfl)) (dLoadPart (k := 2) h41 (block_below hB (lt_of_heap m2_1) m2_1) (by decide) rfl (hdep 19 24 (by kernel_rfl)) (fun _ h => h)),
        fun a w hB hfr hdep => Step.yes 11 16 true rfl rfl (hdep 11 16 (by kernel_rfl)) (Does.call 39 #[(a.eval (.tmp 23)), (a.eval (.tmp 25))] (by kernel_rfl) (cMul w w w (hdep 18 23 (by kernel_rfl)) (hdep 20 25 (by kernel_rfl)))),
        fun a w hB hfr hdep => Step.yes 11 16 true rfl rfl (hdep 11 16 (by kernel_rfl)) (Does.call 52 #[(a.eval (.tmp 21)), (a.eval (.tmp 26))] (by kernel_rfl) (cEq w w w (hdep 16 21 (by kernel_rfl)) (hdep 21 26 (by kernel_rfl)))),
        fun a w hB hfr hdep => Step.plain rfl (dPickT rfl (hdep 11 16 (by kernel_rfl)) (hdep 22 27 (by kernel_rfl))),
        fun a w hB hfr hdep => Step.plain rfl (dAssign (R := Is (.bool (decide (((Y1) * (Z2)) = ((Y2) * (Z1)))))) rfl (hdep 23 28 (by kernel_rfl))), trivial⟩
    intro u2 hb2
    simp only [List.take, List.drop, FinAll, Act.put, List.setIfInBounds_toArray, List.set_cons_succ, List.set_cons_zero]
    rintro _ rfl v6_2 h6_2 _ rfl v8_2 h8_2 v9_2 h9_2 _ rfl v11_2 h11_2 _ rfl v13_2 h13_2 v14_2 h14_2 _ rfl _ rfl _ rfl v18_2 h18_2 _ rfl v20_2 h20_2 v21_2 h21_2 _ rfl v23_2 h23_2 _ rfl v25_2 h25_2 v26_2 h26_2 _ rfl _ rfl _ rfl
    have hO2 := (hO1).trans (hb2.mono (hO1).size)
    have m2_1__2 := block_below hb2 (lt_of_heap m2_1) m2_1
    have m3_1__2 := block_below hb2 (lt_of_heap m3_1) m3_1
    refine hK2 _ _ ?_
    clear hK2 K2
    refine wp_ret ?_
    refine bodyPost_ret (results_tmp rfl _ _ _) rfl ?_
    exact ⟨_, rfl, hO2, hfin _⟩
  · have hfin : ∀ w', Is (.bool b) (.bool false) w' := fun _ => by
      refine congrArg Value.bool ?_
      cases b with
      | false => rfl
      | true => exact absurd (hs.1 rfl).1 hx
    have hO0 : Below w.heap.size w w := Below.refl _ _
    go_enter Tryd.func24, Tryd.ntmps24
    refine wp_seq_k fun K1 hK1 => ?_
    refine wp_plain_inv 3 (specs [Box w.heap.size (cs1) 29, Box w.heap.size (cs2) 29, Is (.bool false)]) (specs_stb ⟨Box.stb _ _ _, Box.stb _ _ _, Is.stb _, trivial⟩) (by kernel_rfl) ?_ ?_
    · refine ⟨fun a w hB hfr hdep => Step.plain rfl (dBox29 hB.size rfl (hfr 0 (by kernel_rfl)) h41),
        fun a w hB hfr hdep => Step.plain rfl (dBox29 hB.size rfl (hfr 1 (by kernel_rfl)) h42),
        fun a w hB hfr hdep => Step.plain rfl (dAssign (R := Is (.bool false)) rfl rfl), trivial⟩
    intro u1 hb1
    simp only [List.take, List.drop, FinAll, Act.put, List.setIfInBounds_toArray, List.set_cons_succ, List.set_cons_zero]
    rintro _ ⟨g2_1, rfl, l2_1, m2_1⟩ _ ⟨g3_1, rfl, l3_1, m3_1⟩ _ rfl
    have hO1 := (hO0).trans (hb1.mono (hO0).size)
    have lwm2_1 := Nat.le_trans (hO0).size l2_1
    have lwm3_1 := Nat.le_trans (hO0).size l3_1
    refine hK1 _ _ ?_
    clear hK1 K1
    refine wp_seq_k fun K2 hK2 => ?_
    refine wp_region_inv 25 (specs [Is (.pointer (some ⟨g2_1, 0, none⟩)), El (X1), Is (.pointer (some ⟨g3_1, 10, none⟩)), El (Z2), El ((X1) * (Z2)), Is (.pointer (some ⟨g3_1, 0, none⟩)), El (X2), Is (.pointer (some ⟨g2_1, 10, none⟩)), El (Z1), El ((X2) * (Z1)), Is (.bool false), Is (.bool false), Is (undef), Is (undef), Is (undef), Is (undef), Is (undef), Is (undef), Is (undef), Is (undef), Is (undef), Is (undef), Is (undef), Is (.bool false), Is (.bool false)]) (by kernel_rfl) (specs_stb ⟨Is.stb _, El.stb _, Is.stb _, El.stb _, El.stb _, Is.stb _, El.stb _, Is.stb _, El.stb _, El.stb _, Is.stb _, Is.stb _, Is.stb _, Is.stb _, Is.stb _, Is.stb _, Is.stb _, Is.stb _, Is.stb _, Is.stb _, Is.stb _, Is.stb _, Is.stb _, Is.stb _, Is.stb _, trivial⟩) (by kernel_rfl) ?_ ?_
    · refine ⟨fun a w hB hfr hdep => Step.plain rfl (dFa29 g2_1 0 (by decide) rfl (hfr 2 (by kernel_rfl))),
        fun a w hB hfr hdep => Step.plain rfl (dLoadPart (k := 0) h41 (block_below hB (lt_of_heap m2_1) m2_1) (by decide) rfl (hdep 0 5 (by kernel_rfl)) (fun _ h => h)),
        fun a w hB hfr hdep => Step.plain rfl (dFa29 g3_1 2 (by decide) rfl (hfr 3 (by kernel_rfl))),
        fun a w hB hfr hdep => Step.plain rfl (dLoadPart (k := 2) h42 (block_below hB (lt_of_heap m3_1) m3_1) (by decide) rfl (hdep 2 7 (by kernel_rfl)) (fun _ h => h)),
        fun a w hB hfr hdep => Step.plain rfl (Does.call 39 #[(a.eval (.tmp 6)), (a.eval (.tmp 8))] (by kernel_rfl) (cMul w w w (hdep 1 6 (by kernel_rfl)) (hdep 3 8 (by kernel_rfl)))),
        fun a w hB hfr hdep => Step.plain rfl (dFa29 g3_1 0 (by decide) rfl (hfr 3 (by kernel_rfl))),
        fun a w hB hfr hdep => Step.plain rfl (dLoadPart (k := 0) h42 (block_below hB (lt_of_heap m3_1) m3_1) (by decide) rfl (hdep 5 10 (by kernel_rfl)) (fun _ h => h)),
        fun a w hB hfr hdep => Step.plain rfl (dFa29 g2_1 2 (by decide) rfl (hfr 2 (by kernel_rfl))),
        fun a w hB hfr hdep => Step.plain rfl (dLoadPart (k := 2) h41 (block_below hB (lt_of_heap m2_1) m2_1) (by decide) rfl (hdep 7 12 (by kernel_rfl)) (fun _ h => h)),
        fun a w hB hfr hdep => Step.plain rfl (Does.call 39 #[(a.eval (.tmp 11)), (a.eval (.tmp 13))] (by kernel_rfl) (cMul w w w (hdep 6 11 (by kernel_rfl)) (hdep 8 13 (by kernel_rfl)))),
        fun a w hB hfr hdep => Step.plain rfl (Does.call 52 #[(a.eval (.tmp 9)), (a.eval (.tmp 14))] (by kernel_rfl) (cEqF hx w w w (hdep 4 9 (by kernel_rfl)) (hdep 9 14 (by kernel_rfl)))),
        fun a w hB hfr hdep => Step.plain rfl (dMove (R := Is (.bool false)) rfl (hdep 10 15 (by kernel_rfl))),
        fun a w hB hfr hdep => Step.no 11 16 true rfl rfl (hdep 11 16 (by kernel_rfl)) rfl,
        fun a w hB hfr hdep => Step.no 11 16 true rfl rfl (hdep 11 16 (by kernel_rfl)) rfl,
        fun a w hB hfr hdep => Step.no 11 16 true rfl rfl (hdep 11 16 (by kernel_rfl)) rfl,
        fun a w hB hfr hdep => Step.no 11 16 true rfl rfl (hdep 11 16 (by kernel_rfl)) rfl,
        fun a w hB hfr hdep => Step.no 11 16 true rfl rfl (hdep 11 16 (by kernel_rfl)) rfl,
        fun a w hB hfr hdep => Step.no 11 16 true rfl rfl (hdep 11 16 (by kernel_rfl)) rfl,
        fun a w hB hfr hdep => Step.no 11 16 true rfl rfl (hdep 11 16 (by kernel_rfl)) rfl,
        fun a w hB hfr hdep => Step.no 11 16 true rfl rfl (hdep 11 16 (by kernel_rfl)) rfl,
        fun a w hB hfr hdep => Step.no 11 16 true rfl rfl (hdep 11 16 (by kernel_rfl)) rfl,
        fun a w hB hfr hdep => Step.no 11 16 true rfl rfl (hdep 11 16 (by kernel_rfl)) rfl,
        fun a w hB hfr hdep => Step.no 11 16 true rfl rfl (hdep 11 16 (by kernel_rfl)) rfl,
        fun a w hB hfr hdep => Step.plain rfl (dPickF rfl (hdep 11 16 (by kernel_rfl)) rfl),
        fun a w hB hfr hdep => Step.plain rfl (dAssign (R := Is (.bool false)) rfl (hdep 23 28 (by kernel_rfl))), trivial⟩
    intro u2 hb2
    simp only [List.take, List.drop, FinAll, Act.put, List.setIfInBounds_toArray, List.set_cons_succ, List.set_cons_zero]
    rintro _ rfl v6_2 h6_2 _ rfl v8_2 h8_2 v9_2 h9_2 _ rfl v11_2 h11_2 _ rfl v13_2 h13_2 v14_2 h14_2 _ rfl _ rfl _ rfl _ rfl _ rfl _ rfl _ rfl _ rfl _ rfl _ rfl _ rfl _ rfl _ rfl _ rfl _ rfl
    have hO2 := (hO1).trans (hb2.mono (hO1).size)
    have m2_1__2 := block_below hb2 (lt_of_heap m2_1) m2_1
    have m3_1__2 := block_below hb2 (lt_of_heap m3_1) m3_1
    refine hK2 _ _ ?_
    clear hK2 K2
    refine wp_ret ?_
    refine bodyPost_ret (results_tmp rfl _ _ _) rfl ?_
    exact ⟨_, rfl, hO2, hfin _⟩
end Go.Proofs.YtpfcboakafbnlaaDoor
