/-
  The walk of CurveReads.
-/
import Derived.Test.YtpfcboakafbnlaaDoorQA
set_option linter.unusedVariables false
namespace Go.Proofs.YtpfcboakafbnlaaDoor
open Go.RowKit Go.Sort Go.BigFrame
set_option maxRecDepth 100000
set_option maxHeartbeats 2000000
theorem curveReads3E {v1 : Value} {l1 : List Nat} (w : World) (hT : Tab5 w) (hv1 : Bts l1 v1 w) (hd1 : Dig l1) (h11 : ∀ v w, Tab5 w → Bts ((l1).take 36) v w → Ret 11 #[v] w (Tup2 (Is (.agg (ptc zeroE zeroE zeroE zeroE))) (Is (.int .i64 2)))) (h12 : ∀ v w, Bts ((l1).take 36) v w → Ret 12 #[v] w (Tup2 (Is (.agg #[.slice none 0 0, .slice none 0 0])) (Is (.bool false)))) : Ret 3 #[v1] w (Is (.bool true)) := by
  unfold Ret
  have hO0 : Below w.heap.size w w := Below.refl _ _
  go_enter Tryd.func3, Tryd.ntmps3
  refine wp_seq_k fun K1 hK1 => ?_
  refine wp_plain_inv 1 (specs [Is (.bool false)]) (specs_stb ⟨Is.stb _, trivial⟩) (by kernel_rfl) ?_ ?_
  · refine ⟨fun a w hB hfr hdep => Step.plain rfl (dAssign (R := Is (.bool false)) rfl rfl), trivial⟩
  intro u1 hb1
  simp only [List.take, List.drop, FinAll, Act.put, List.setIfInBounds_toArray, List.set_cons_succ, List.set_cons_zero]
  rintro _ rfl
  have hO1 := (hO0).trans (hb1.mono (hO0).size)
  have hT1 := Tab5.below hT hb1
  refine hK1 _ _ ?_
  clear hK1 K1
  refine wp_seq_k fun K2 hK2 => ?_
  refine wp_plain_inv 2 (specs [Bts (l1), Bts ((l1).take 36)]) (specs_stb ⟨Bts.stb _, Bts.stb _, trivial⟩) (by kernel_rfl) ?_ ?_
  · refine ⟨fun a w hB hfr hdep => Step.plain rfl (dMove (R := Bts (l1)) rfl (use (hfr 0 (by kernel_rfl)) ((Bts.stb _) _ _ _ hB ((Bts.stb _) _ _ _ hb1 hv1)))),
      fun a w hB hfr hdep => Step.plain rfl (Does.call 10 #[(a.eval (.tmp 7)), .int .i64 36] (by kernel_rfl) (cFew 36 w (hdep 0 7 (by kernel_rfl)) (by decide))), trivial⟩
  intro u2 hb2
  simp only [List.take, List.drop, FinAll, Act.put, List.setIfInBounds_toArray, List.set_cons_succ, List.set_cons_zero]
  rintro v7_2 h7_2 v8_2 h8_2
  refine wpList_assign rfl rfl rfl ?_
  simp only [Act.put, Act.eval, Array.getD_eq_getD_getElem?, List.getElem?_toArray, List.getElem?_cons_succ, List.getElem?_cons_zero, Option.getD_some, List.setIfInBounds_toArray, List.set_cons_zero]
  have hO2 := (hO1).trans (hb2.mono (hO1).size)
  have hT2 := Tab5.below hT1 hb2
  refine hK2 _ _ ?_
  clear hK2 K2
  refine wp_seq_k fun K3 hK3 => ?_
  refine wp_plain_inv 6 (specs [Bts ((l1).take 36), Tup2 (Is (.agg (ptc zeroE zeroE zeroE zeroE))) (Is (.int .i64 2)), Tup2 (Is (.agg (ptc zeroE zeroE zeroE zeroE))) (Is (.int .i64 2)), Is (.agg (ptc zeroE zeroE zeroE zeroE)), Is (.int .i64 2), Box u2.heap.size (ptc zeroE zeroE zeroE zeroE) 29]) (specs_stb ⟨Bts.stb _, Tup2.stb (Is.stb _) (Is.stb _), Tup2.stb (Is.stb _) (Is.stb _), Is.stb _, Is.stb _, Box.stb _ _ _, trivial⟩) (by kernel_rfl) ?_ ?_
  · refine ⟨fun a w hB hfr hdep => Step.plain rfl (dMove (R := Bts ((l1).take 36)) rfl (use (hfr 0 (by kernel_rfl)) ((Bts.stb _) _ _ _ hB h8_2))),
      fun a w hB hfr hdep => Step.plain rfl (Does.call 11 #[(a.eval (.tmp 10))] (by kernel_rfl) (h11 _ w (Tab5.below hT2 hB) (hdep 0 10 (by kernel_rfl)))),
      fun a w hB hfr hdep => Step.plain rfl (dMove (R := Tup2 (Is (.agg (ptc zeroE zeroE zeroE zeroE))) (Is (.int .i64 2))) rfl (hdep 1 11 (by kernel_rfl))),
      fun a w hB hfr hdep => Step.plain rfl (dExt0 rfl (hdep 2 9 (by kernel_rfl))),
      fun a w hB hfr hdep => Step.plain rfl (dExt1 rfl (hdep 2 9 (by kernel_rfl))),
      fun a w hB hfr hdep => Step.plain rfl (dAlloc29 hB.size rfl), trivial⟩
  intro u3 hb3
  simp only [List.take, List.drop, FinAll, Act.put, List.setIfInBounds_toArray, List.set_cons_succ, List.set_cons_zero]
  rintro v10_3 h10_3 v11_3 h11_3 v9_3 h9_3 _ rfl _ rfl _ ⟨g3_3, rfl, l3_3, m3_3⟩
  refine wpList_store_row rfl 29 (.tmp 3) (.tmp 12) rfl _ (ptc zeroE zeroE zeroE zeroE) rfl rfl 29 _ m3_3 info29 rfl (ptc_one _ _ _ _) ?_
  have n3_3 := setRow_heap _ _ _ (ptc zeroE zeroE zeroE zeroE) _ _ m3_3
  replace hb3 := setRow_below hb3 l3_3 (ptc zeroE zeroE zeroE zeroE)
  generalize hw3_1 : u3.setRow g3_3 (ptc zeroE zeroE zeroE zeroE) = u3_1 at n3_3 hb3  ⊢
  clear hw3_1 m3_3
  refine wpList_assign rfl rfl rfl ?_
  simp only [Act.put, Act.eval, Array.getD_eq_getD_getElem?, List.getElem?_toArray, List.getElem?_cons_succ, List.getElem?_cons_zero, Option.getD_some, List.setIfInBounds_toArray, List.set_cons_succ, List.set_cons_zero]
  have hO3 := (hO2).trans (hb3.mono (hO2).size)
  have lwn3_3 := Nat.le_trans (hO2).size l3_3
  have hT3 := Tab5.below hT2 hb3
  refine hK3 _ _ ?_
  clear hK3 K3
  refine wp_seq_k fun K4 hK4 => ?_
  refine wp_plain_inv 6 (specs [Bts ((l1).take 36), Tup2 (Is (.agg #[.slice none 0 0, .slice none 0 0])) (Is (.bool false)), Tup2 (Is (.agg #[.slice none 0 0, .slice none 0 0])) (Is (.bool false)), Is (.agg #[.slice none 0 0, .slice none 0 0]), Is (.bool false), Box u3_1.heap.size (#[.slice none 0 0, .slice none 0 0]) 35]) (specs_stb ⟨Bts.stb _, Tup2.stb (Is.stb _) (Is.stb _), Tup2.stb (Is.stb _) (Is.stb _), Is.stb _, Is.stb _, Box.stb _ _ _, trivial⟩) (by kernel_rfl) ?_ ?_
  · refine ⟨fun a w hB hfr hdep => Step.plain rfl (dMove (R := Bts ((l1).take 36)) rfl (use (hfr 0 (by kernel_rfl)) ((Bts.stb _) _ _ _ hB ((Bts.stb _) _ _ _ hb3 h8_2)))),
      fun a w hB hfr hdep => Step.plain rfl (Does.call 12 #[(a.eval (.tmp 15))] (by kernel_rfl) (h12 _ w (hdep 0 15 (by kernel_rfl)))),
      fun a w hB hfr hdep => Step.plain rfl (dMove (R := Tup2 (Is (.agg #[.slice none 0 0, .slice none 0 0])) (Is (.bool false))) rfl (hdep 1 16 (by kernel_rfl))),
      fun a w hB hfr hdep => Step.plain rfl (dExt0 rfl (hdep 2 14 (by kernel_rfl))),
      fun a w hB hfr hdep => Step.plain rfl (dExt1 rfl (hdep 2 14 (by kernel_rfl))),
      fun a w hB hfr hdep => Step.plain rfl (dAlloc35 hB.size rfl), trivial⟩
  intro u4 hb4
  simp only [List.take, List.drop, FinAll, Act.put, List.setIfInBounds_toArray, List.set_cons_succ, List.set_cons_zero]
  rintro v15_4 h15_4 v16_4 h16_4 v14_4 h14_4 _ rfl _ rfl _ ⟨g5_4, rfl, l5_4, m5_4⟩
  refine wpList_store_row rfl 35 (.tmp 5) (.tmp 17) rfl _ (#[.slice none 0 0, .slice none 0 0]) rfl rfl 35 _ m5_4 info35 rfl (by simp [Value.oneCell']) ?_
  have n5_4 := setRow_heap _ _ _ (#[.slice none 0 0, .slice none 0 0]) _ _ m5_4
  replace hb4 := setRow_below hb4 l5_4 (#[.slice none 0 0, .slice none 0 0])
  generalize hw4_1 : u4.setRow g5_4 (#[.slice none 0 0, .slice none 0 0]) = u4_1 at n5_4 hb4  ⊢
  clear hw4_1 m5_4
  refine wpList_assign rfl rfl rfl ?_
  simp only [Act.put, Act.eval, Array.getD_eq_getD_getElem?, List.getElem?_toArray, List.getElem?_cons_succ, List.getElem?_cons_zero, Option.getD_some, List.setIfInBounds_toArray, List.set_cons_succ, List.set_cons_zero]
  have hO4 := (hO3).trans (hb4.mono (hO3).size)
  have n3_3__4 := block_below hb4 (lt_of_heap n3_3) n3_3
  have lwn5_4 := Nat.le_trans (hO3).size l5_4
  have hT4 := Tab5.below hT3 hb4
  refine hK4 _ _ ?_
  clear hK4 K4
  refine wp_seq_k fun KO hKO => ?_
  refine wp_seq_k fun K5 hK5 => ?_
  refine wp_plain_inv 2 (specs [Is (.bool false), Is (.bool true)]) (specs_stb ⟨Is.stb _, Is.stb _, trivial⟩) (by kernel_rfl) ?_ ?_
  · refine ⟨fun a w hB hfr hdep => Step.plain rfl (dMove (R := Is (.bool false)) rfl (hfr 6 (by kernel_rfl))),
      fun a w hB hfr hdep => Step.plain rfl (Does.run _ (run_notO rfl (hdep 0 19 (by kernel_rfl))) rfl), trivial⟩
  intro u5 hb5
  simp only [List.take, List.drop, FinAll, Act.put, List.setIfInBounds_toArray, List.set_cons_succ, List.set_cons_zero]
  rintro _ rfl _ rfl
  have hO5 := (hO4).trans (hb5.mono (hO4).size)
  have n3_3__5 := block_below hb5 (lt_of_heap n3_3__4) n3_3__4
  have n5_4__5 := block_below hb5 (lt_of_heap n5_4) n5_4
  have hT5 := Tab5.below hT4 hb5
  refine hK5 _ _ ?_
  clear hK5 K5
  refine wp_cond_true rfl ?_
  refine wp_seq_k fun K6 hK6 => ?_
  refine wp_plain_inv 6 (specs [Is (.int .i64 2), Is (.bool true), Is (.bool true), Is (.bool true), Is (.bool true), Is (.bool true)]) (specs_stb ⟨Is.stb _, Is.stb _, Is.stb _, Is.stb _, Is.stb _, Is.stb _, trivial⟩) (by kernel_rfl) ?_ ?_
  · refine ⟨fun a w hB hfr hdep => Step.plain rfl (dMove (R := Is (.int .i64 2)) rfl (hfr 4 (by kernel_rfl))),
      fun a w hB hfr hdep => Step.plain rfl (Does.run _ (run_binO rfl (hdep 0 21 (by kernel_rfl)) rfl (by kernel_rfl)) rfl),
      fun a w hB hfr hdep => Step.plain rfl (dMove (R := Is (.bool true)) rfl (hdep 1 22 (by kernel_rfl))),
      fun a w hB hfr hdep => Step.yes 2 23 true rfl rfl (hdep 2 23 (by kernel_rfl)) (Does.call 13 #[] (by kernel_rfl) (cLives w (Tab5.below hT5 hB).toTab)),
      fun a w hB hfr hdep => Step.plain rfl (dPickT rfl (hdep 2 23 (by kernel_rfl)) (hdep 3 24 (by kernel_rfl))),
      fun a w hB hfr hdep => Step.plain rfl (dAssign (R := Is (.bool true)) rfl (hdep 4 25 (by kernel_rfl))), trivial⟩
  intro u6 hb6
  simp only [List.take, List.drop, FinAll, Act.put, List.setIfInBounds_toArray, List.set_cons_succ, List.set_cons_zero]
  rintro _ rfl _ rfl _ rfl _ rfl _ rfl _ rfl
  have hO6 := (hO5).trans (hb6.mono (hO5).size)
  have n3_3__6 := block_below hb6 (lt_of_heap n3_3__5) n3_3__5
  have n5_4__6 := block_below hb6 (lt_of_heap n5_4__5) n5_4__5
  have hT6 := Tab5.below hT5 hb6
  refine hK6 _ _ ?_
  clear hK6 K6
  refine wp_ret ?_
  simp only [Exit.then]
  refine bodyPost_ret (results_tmp rfl _ _ _) rfl ?_
  exact ⟨_, rfl, hO6, rfl⟩
theorem curveReads3P {v1 : Value} {l1 : List Nat} {p : Pt} (w : World) (hT : Tab5 w) (hv1 : Bts l1 v1 w) (hd1 : Dig l1) (heq : ((strOf (digs 32 (Pt.enc (p)))).toList == (strOf ((l1).take 36)).toList) = true) (h11 : ∀ v w, Tab5 w → Bts ((l1).take 36) v w → Ret 11 #[v] w (Tup2 (PtV p) (Is (.int .i64 0)))) (h12 : ∀ v w, Bts ((l1).take 36) v w → Ret 12 #[v] w (Tup2 (RPt p.x p.y) (Is (.bool true)))) : Ret 3 #[v1] w (Is (.bool true)) := by
  unfold Ret
  have hO0 : Below w.heap.size w w := Below.refl _ _
  go_enter Tryd.func3, Tryd.ntmps3
  refine wp_seq_k fun K1 hK1 => ?_
  refine wp_plain_inv 1 (specs [Is (.bool false)]) (specs_stb ⟨Is.stb _, trivial⟩) (by kernel_rfl) ?_ ?_
  · refine ⟨fun a w hB hfr hdep => Step.plain rfl (dAssign (R := Is (.bool false)) rfl rfl), trivial⟩
  intro u1 hb1
  simp only [List.take, List.drop, FinAll, Act.put, List.setIfInBounds_toArray, List.set_cons_succ, List.set_cons_zero]
  rintro _ rfl
  have hO1 := (hO0).trans (hb1.mono (hO0).size)
  have hT1 := Tab5.below hT hb1
  refine hK1 _ _ ?_
  clear hK1 K1
  refine wp_seq_k fun K2 hK2 => ?_
  refine wp_plain_inv 2 (specs [Bts (l1), Bts ((l1).take 36)]) (specs_stb ⟨Bts.stb _, Bts.stb _, trivial⟩) (by kernel_rfl) ?_ ?_
  · refine ⟨fun a w hB hfr hdep => Step.plain rfl (dMove (R := Bts (l1)) rfl (use (hfr 0 (by kernel_rfl)) ((Bts.stb _) _ _ _ hB ((Bts.stb _) _ _ _ hb1 hv1)))),
      fun a w hB hfr hdep => Step.plain rfl (Does.call 10 #[(a.eval (.tmp 7)), .int .i64 36] (by kernel_rfl) (cFew 36 w (hdep 0 7 (by kernel_rfl)) (by decide))), trivial⟩
  intro u2 hb2
  simp only [List.take, List.drop, FinAll, Act.put, List.setIfInBounds_toArray, List.set_cons_succ, List.set_cons_zero]
  rintro v7_2 h7_2 v8_2 h8_2
  refine wpList_assign rfl rfl rfl ?_
  simp only [Act.put, Act.eval, Array.getD_eq_getD_getElem?, List.getElem?_toArray, List.getElem?_cons_succ, List.getElem?_cons_zero, Option.getD_some, List.setIfInBounds_toArray, List.set_cons_zero]
  have hO2 := (hO1).trans (hb2.mono (hO1).size)
  have hT2 := Tab5.below hT1 hb2
  refine hK2 _ _ ?_
  clear hK2 K2
  refine wp_seq_k fun K3 hK3 => ?_
  refine wp_plain_inv 6 (specs [Bts ((l1).take 36), Tup2 (PtV (p)) (Is (.int .i64 0)), Tup2 (PtV (p)) (Is (.int .i64 0)), PtV (p), Is (.int .i64 0), Box u2.heap.size (ptc zeroE zeroE zeroE zeroE) 29]) (specs_stb ⟨Bts.stb _, Tup2.stb (PtV.stb _) (Is.stb _), Tup2.stb (PtV.stb _) (Is.stb _), PtV.stb _, Is.stb _, Box.stb _ _ _, trivial⟩) (by kernel_rfl) ?_ ?_
  · refine ⟨fun a w hB hfr hdep => Step.plain rfl (dMove (R := Bts ((l1).take 36)) rfl (use (hfr 0 (by kernel_rfl)) ((Bts.stb _) _ _ _ hB h8_2))),
      fun a w hB hfr hdep => Step.plain rfl (Does.call 11 #[(a.eval (.tmp 10))] (by kernel_rfl) (h11 _ w (Tab5.below hT2 hB) (hdep 0 10 (by kernel_rfl)))),
      fun a w hB hfr hdep => Step.plain rfl (dMove (R := Tup2 (PtV (p)) (Is (.int .i64 0))) rfl (hdep 1 11 (by kernel_rfl))),
      fun a w hB hfr hdep => Step.plain rfl (dExt0 rfl (hdep 2 9 (by kernel_rfl))),
      fun a w hB hfr hdep => Step.plain rfl (dExt1 rfl (hdep 2 9 (by kernel_rfl))),
      fun a w hB hfr hdep => Step.plain rfl (dAlloc29 hB.size rfl), trivial⟩
  intro u3 hb3
  simp only [List.take, List.drop, FinAll, Act.put, List.setIfInBounds_toArray, List.set_cons_succ, List.set_cons_zero]
  rintro v10_3 h10_3 v11_3 h11_3 v9_3 h9_3 _ ⟨e12_3, rfl, x12_3⟩ _ rfl _ ⟨g3_3, rfl, l3_3, m3_3⟩
  refine wpList_store_row rfl 29 (.tmp 3) (.tmp 12) rfl _ (e12_3) rfl rfl 29 _ m3_3 (by rw [cellsP_size x12_3]; exact info29) (by rw [cellsP_size x12_3]; rfl) (cellsP_one x12_3) ?_
  have n3_3 := setRow_heap _ _ _ (e12_3) _ _ m3_3
  replace hb3 := setRow_below hb3 l3_3 (e12_3)
  generalize hw3_1 : u3.setRow g3_3 (e12_3) = u3_1 at n3_3 hb3  ⊢
  clear hw3_1 m3_3
  refine wpList_assign rfl rfl rfl ?_
  simp only [Act.put, Act.eval, Array.getD_eq_getD_getElem?, List.getElem?_toArray, List.getElem?_cons_succ, List.getElem?_cons_zero, Option.getD_some, List.setIfInBounds_toArray, List.set_cons_succ, List.set_cons_zero]
  have hO3 := (hO2).trans (hb3.mono (hO2).size)
  have lwn3_3 := Nat.le_trans (hO2).size l3_3
  have hT3 := Tab5.below hT2 hb3
  refine hK3 _ _ ?_
  clear hK3 K3
  refine wp_seq_k fun K4 hK4 => ?_
  refine wp_plain_inv 6 (specs [Bts ((l1).take 36), Tup2 (RPt (p.x) (p.y)) (Is (.bool true)), Tup2 (RPt (p.x) (p.y)) (Is (.bool true)), RPt (p.x) (p.y), Is (.bool true), Box u3_1.heap.size (#[.slice none 0 0, .slice none 0 0]) 35]) (specs_stb ⟨Bts.stb _, Tup2.stb (RPt.stb _ _) (Is.stb _), Tup2.stb (RPt.stb _ _) (Is.stb _), RPt.stb _ _, Is.stb _, Box.stb _ _ _, trivial⟩) (by kernel_rfl) ?_ ?_
  · refine ⟨fun a w hB hfr hdep => Step.plain rfl (dMove (R := Bts ((l1).take 36)) rfl (use (hfr 0 (by kernel_rfl)) ((Bts.stb _) _ _ _ hB ((Bts.stb _) _ _ _ hb3 h8_2)))),
      fun a w hB hfr hdep => Step.plain rfl (Does.call 12 #[(a.eval (.tmp 15))] (by kernel_rfl) (h12 _ w (hdep 0 15 (by kernel_rfl)))),
      fun a w hB hfr hdep => Step.plain rfl (dMove (R := Tup2 (RPt (p.x) (p.y)) (Is (.bool true))) rfl (hdep 1 16 (by kernel_rfl))),
      fun a w hB hfr hdep => Step.plain rfl (dExt0 rfl (hdep 2 14 (by kernel_rfl))),
      fun a w hB hfr hdep => Step.plain rfl (dExt1 rfl (hdep 2 14 (by kernel_rfl))),
      fun a w hB hfr hdep => Step.plain rfl (dAlloc35 hB.size rfl), trivial⟩
  intro u4 hb4
  simp only [List.take, List.drop, FinAll, Act.put, List.setIfInBounds_toArray, List.set_cons_succ, List.set_cons_zero]
  rintro v15_4 h15_4 v16_4 h16_4 v14_4 h14_4 _ ⟨p17_4, q17_4, rfl, x17_4, y17_4⟩ _ rfl _ ⟨g5_4, rfl, l5_4, m5_4⟩
  refine wpList_store_row rfl 35 (.tmp 5) (.tmp 17) rfl _ (#[p17_4, q17_4]) rfl rfl 35 _ m5_4 info35 rfl (rpt_one x17_4 y17_4) ?_
  have n5_4 := setRow_heap _ _ _ (#[p17_4, q17_4]) _ _ m5_4
  replace hb4 := setRow_below hb4 l5_4 (#[p17_4, q17_4])
  replace x17_4 := Rw.setRow x17_4 m5_4 nz35 (#[p17_4, q17_4])
  replace y17_4 := Rw.setRow y17_4 m5_4 nz35 (#[p17_4, q17_4])
  generalize hw4_1 : u4.setRow g5_4 (#[p17_4, q17_4]) = u4_1 at n5_4 hb4 x17_4 y17_4  ⊢
  clear hw4_1 m5_4
  refine wpList_assign rfl rfl rfl ?_
  simp only [Act.put, Act.eval, Array.getD_eq_getD_getElem?, List.getElem?_toArray, List.getElem?_cons_succ, List.getElem?_cons_zero, Option.getD_some, List.setIfInBounds_toArray, List.set_cons_succ, List.set_cons_zero]
  have hO4 := (hO3).trans (hb4.mono (hO3).size)
  have n3_3__4 := block_below hb4 (lt_of_heap n3_3) n3_3
  have lwn5_4 := Nat.le_trans (hO3).size l5_4
  have hT4 := Tab5.below hT3 hb4
  refine hK4 _ _ ?_
  clear hK4 K4
  refine wp_seq_k fun KO hKO => ?_
  refine wp_seq_k fun K5 hK5 => ?_
  refine wp_plain_inv 2 (specs [Is (.bool true), Is (.bool false)]) (specs_stb ⟨Is.stb _, Is.stb _, trivial⟩) (by kernel_rfl) ?_ ?_
  · refine ⟨fun a w hB hfr hdep => Step.plain rfl (dMove (R := Is (.bool true)) rfl (hfr 6 (by kernel_rfl))),
      fun a w hB hfr hdep => Step.plain rfl (Does.run _ (run_notO rfl (hdep 0 19 (by kernel_rfl))) rfl), trivial⟩
  intro u5 hb5
  simp only [List.take, List.drop, FinAll, Act.put, List.setIfInBounds_toArray, List.set_cons_succ, List.set_cons_zero]
  rintro _ rfl _ rfl
  have hO5 := (hO4).trans (hb5.mono (hO4).size)
  have n3_3__5 := block_below hb5 (lt_of_heap n3_3__4) n3_3__4
  have n5_4__5 := block_below hb5 (lt_of_heap n5_4) n5_4
  have hT5 := Tab5.below hT4 hb5
  refine hK5 _ _ ?_
  clear hK5 K5
  refine wp_cond_false rfl ?_
  refine wp_skip ?_
  refine hKO _ _ ?_
  clear hKO KO
  refine wp_seq_k fun K6 hK6 => ?_
  refine wp_region_inv 18 (specs [Is (.int .i64 0), Is (.bool true), Is (.bool true), PtV (p), Own u5.heap.size (digs 32 (Pt.enc (p))), Is (.string (strOf (digs 32 (Pt.enc (p))))), Bts ((l1).take 36), Is (.string (strOf ((l1).take 36))), Is (.bool true), Is (.bool true), Is (.bool true), RPt (p.x) (p.y), Is (.bool true), Is (.bool true), Is (.bool true), Is (.bool true), Is (.bool true), Is (.bool true)]) (by kernel_rfl) (specs_stb ⟨Is.stb _, Is.stb _, Is.stb _, PtV.stb _, Own.stb _ _, Is.stb _, Bts.stb _, Is.stb _, Is.stb _, Is.stb _, Is.stb _, RPt.stb _ _, Is.stb _, Is.stb _, Is.stb _, Is.stb _, Is.stb _, Is.stb _, trivial⟩) (by kernel_rfl) ?_ ?_
  · refine ⟨fun a w hB hfr hdep => Step.plain rfl (dMove (R := Is (.int .i64 0)) rfl (hfr 4 (by kernel_rfl))),
      fun a w hB hfr hdep => Step.plain rfl (Does.run _ (run_binO rfl (hdep 0 26 (by kernel_rfl)) rfl (by kernel_rfl)) rfl),
      fun a w hB hfr hdep => Step.plain rfl (dMove (R := Is (.bool true)) rfl (hdep 1 27 (by kernel_rfl))),
      fun a w hB hfr hdep => Step.yes 2 28 true rfl rfl (hdep 2 28 (by kernel_rfl)) (dLoadPt x12_3 (block_below hB (lt_of_heap n3_3__5) n3_3__5) rfl (hfr 3 (by kernel_rfl)) (fun _ h => h)),
      fun a w hB hfr hdep => Step.yes 2 28 true rfl rfl (hdep 2 28 (by kernel_rfl)) (Does.call 14 #[(a.eval (.tmp 29))] (by kernel_rfl) (ownLo hB.size (cPBytes w w (hdep 3 29 (by kernel_rfl))))),
      fun a w hB hfr hdep => Step.yes 2 28 true rfl rfl (hdep 2 28 (by kernel_rfl)) (dConvOwn rfl (hdep 4 30 (by kernel_rfl))),
      fun a w hB hfr hdep => Step.yes 2 28 true rfl rfl (hdep 2 28 (by kernel_rfl)) (dMove (R := Bts ((l1).take 36)) rfl (use (hfr 0 (by kernel_rfl)) ((Bts.stb _) _ _ _ hB ((Bts.stb _) _ _ _ hb5 ((Bts.stb _) _ _ _ hb4 ((Bts.stb _) _ _ _ hb3 h8_2)))))),
      fun a w hB hfr hdep => Step.yes 2 28 true rfl rfl (hdep 2 28 (by kernel_rfl)) (dConvBts rfl (hdep 6 32 (by kernel_rfl))),
      fun a w hB hfr hdep => Step.yes 2 28 true rfl rfl (hdep 2 28 (by kernel_rfl)) (Does.run _ (run_eqStrB (heq) rfl (hdep 5 31 (by kernel_rfl)) (hdep 7 33 (by kernel_rfl))) rfl),
      fun a w hB hfr hdep => Step.plain rfl (dPickT rfl (hdep 2 28 (by kernel_rfl)) (hdep 8 34 (by kernel_rfl))),
      fun a w hB hfr hdep => Step.plain rfl (dMove (R := Is (.bool true)) rfl (hdep 9 35 (by kernel_rfl))),
      fun a w hB hfr hdep => Step.yes 10 36 true rfl rfl (hdep 10 36 (by kernel_rfl)) (dLoadRPt (Rw.stb _ _ _ _ hb5 x17_4) hB (Rw.stb _ _ _ _ hb5 y17_4) (block_below hB (lt_of_heap n5_4__5) n5_4__5) rfl (hfr 5 (by kernel_rfl))),
      fun a w hB hfr hdep => Step.yes 10 36 true rfl rfl (hdep 10 36 (by kernel_rfl)) (Does.call 15 #[(a.eval (.tmp 37))] (by kernel_rfl) (rOn w (hdep 11 37 (by kernel_rfl)) p.on)),
      fun a w hB hfr hdep => Step.plain rfl (dPickT rfl (hdep 10 36 (by kernel_rfl)) (hdep 12 38 (by kernel_rfl))),
      fun a w hB hfr hdep => Step.plain rfl (dMove (R := Is (.bool true)) rfl (hdep 13 39 (by kernel_rfl))),
      fun a w hB hfr hdep => Step.yes 14 40 true rfl rfl (hdep 14 40 (by kernel_rfl)) (Does.call 13 #[] (by kernel_rfl) (cLives w (Tab5.below hT5 hB).toTab)),
      fun a w hB hfr hdep => Step.plain rfl (dPickT rfl (hdep 14 40 (by kernel_rfl)) (hdep 15 41 (by kernel_rfl))),
      fun a w hB hfr hdep => Step.plain rfl (dAssign (R := Is (.bool true)) rfl (hdep 16 42 (by kernel_rfl))), trivial⟩
  intro u6 hb6
  simp only [List.take, List.drop, FinAll, Act.put, List.setIfInBounds_toArray, List.set_cons_succ, List.set_cons_zero]
  rintro _ rfl _ rfl _ rfl v29_6 h29_6 v30_6 h30_6 _ rfl v32_6 h32_6 _ rfl _ rfl _ rfl _ rfl v37_6 h37_6 _ rfl _ rfl _ rfl _ rfl _ rfl _ rfl
  have hO6 := (hO5).trans (hb6.mono (hO5).size)
  have n3_3__6 := block_below hb6 (lt_of_heap n3_3__5) n3_3__5
  have n5_4__6 := block_below hb6 (lt_of_heap n5_4__5) n5_4__5
  have hT6 := Tab5.below hT5 hb6
  refine hK6 _ _ ?_
  clear hK6 K6
  refine wp_ret ?_
  refine bodyPost_ret (results_tmp rfl _ _ _) rfl ?_
  exact ⟨_, rfl, hO6, rfl⟩
theorem curveReads3 {v1 : Value} {l1 : List Nat} (w : World) (hT : Tab5 w) (hv1 : Bts l1 v1 w) (hd1 : Dig l1) : Ret 3 #[v1] w (Is (.bool true)) := by
  have hdt := Dig.take hd1 36
  by_cases hl : ((l1).take 36).length = 32
  · by_cases hp : ∃ p : Pt, p.enc = valD ((l1).take 36)
    · obtain ⟨p, hp⟩ := hp
      have hdig : digs 32 p.enc = (l1).take 36 := by rw [hp]; exact (digs_of hdt hl rfl).symm
      exact curveReads3P w hT hv1 hd1 (by rw [hdig]; exact str_refl _) (fun v w hT h => cReadPt w hT h hl hdt hp) (fun v w h => rReadPt w h hl hdt hp)
    · exact curveReads3E w hT hv1 hd1 (fun v w hT h => cReadErr w hT h hl hdt hp) (fun v w h => rReadErr w h hl hdt hp)
  · refine curveReads3E w hT hv1 hd1 (fun v w hT h => ?_) (fun v w h => ?_)
    · obtain ⟨a, cap, rfl, _⟩ := h
      exact cReadLen a _ cap w hl
    · obtain ⟨a, cap, rfl, _⟩ := h
      exact rReadLen a _ cap w hl
end Go.Proofs.YtpfcboakafbnlaaDoor
