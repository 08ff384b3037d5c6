/-
  The walk of CurveBytes.
-/
import Derived.Test.YtpfcboakafbnlaaDoorLA
set_option linter.unusedVariables false
namespace Go.Proofs.YtpfcboakafbnlaaDoor
open Go.RowKit Go.Sort Go.BigFrame
set_option maxRecDepth 100000
set_option maxHeartbeats 2000000
theorem curveBytes8 {v1 v2 : Value} {l1 l2 : List Nat} (w : World) (hT : Tab5 w) (hv1 : Bts l1 v1 w) (hv2 : Bts l2 v2 w) (hd1 : Dig l1) (hd2 : Dig l2) : Ret 8 #[v1, v2] w (Is (.bool true)) := by
  unfold Ret
  by_cases hpq : (bp).nm (valD ((l1).take 32)) = (bp).nm (valD ((l2).take 32))
  · have heq : ((strOf (digs 32 (Pt.enc ((bp).nm (valD ((l1).take 32)))))).toList == (strOf (digs 32 (Pt.enc ((bp).nm (valD ((l2).take 32)))))).toList) = true := by rw [← hpq]; exact str_refl _
    have hO0 : Below w.heap.size w w := Below.refl _ _
    go_enter Tryd.func8, Tryd.ntmps8
    refine wp_seq_k fun K1 hK1 => ?_
    refine wp_plain_inv 1 (specs [Is (.bool false)]) (specs_stb ⟨Is.stb _, trivial⟩) (by kernel_rfl) ?_ ?_
    · refine ⟨fun a w hB hfr hdep => Step.plain rfl (dAssign (R := Is (.bool false)) rfl rfl), trivial⟩
    intro u1 hb1
    simp only [List.take, List.drop, FinAll, Act.put, List.setIfInBounds_toArray, List.set_cons_succ, List.set_cons_zero]
    rintro _ rfl
    have hO1 := (hO0).trans (hb1.mono (hO0).size)
    have hT1 := Tab5.below hT hb1
    refine hK1 _ _ ?_
    clear hK1 K1
    refine wp_seq_k fun K2 hK2 => ?_
    refine wp_plain_inv 5 (specs [PtV (bp), Bts (l1), Bts ((l1).take 32), PtV ((bp).nm (valD ((l1).take 32))), Box u1.heap.size (ptc zeroE zeroE zeroE zeroE) 29]) (specs_stb ⟨PtV.stb _, Bts.stb _, Bts.stb _, PtV.stb _, Box.stb _ _ _, trivial⟩) (by kernel_rfl) ?_ ?_
    · refine ⟨fun a w hB hfr hdep => Step.plain rfl (Does.call 16 #[] (by kernel_rfl) (cBase w (Tab5.below hT1 hB).toTab)),
        fun a w hB hfr hdep => Step.plain rfl (dMove (R := Bts (l1)) rfl (use (hfr 0 (by kernel_rfl)) ((Bts.stb _) _ _ _ hB ((Bts.stb _) _ _ _ hb1 hv1)))),
        fun a w hB hfr hdep => Step.plain rfl (Does.call 10 #[(a.eval (.tmp 11)), .int .i64 32] (by kernel_rfl) (cFew 32 w (hdep 1 11 (by kernel_rfl)) (by decide))),
        fun a w hB hfr hdep => Step.plain rfl (Does.call 17 #[(a.eval (.tmp 10)), (a.eval (.tmp 12))] (by kernel_rfl) (cMulP w w (Tab5.below hT1 hB).toTab (hdep 0 10 (by kernel_rfl)) (hdep 2 12 (by kernel_rfl)) (Dig.take hd1 _) (by rw [List.length_take]; omega))),
        fun a w hB hfr hdep => Step.plain rfl (dAlloc29 hB.size rfl), trivial⟩
    intro u2 hb2
    simp only [List.take, List.drop, FinAll, Act.put, List.setIfInBounds_toArray, List.set_cons_succ, List.set_cons_zero]
    rintro v10_2 h10_2 v11_2 h11_2 v12_2 h12_2 _ ⟨e13_2, rfl, x13_2⟩ _ ⟨g5_2, rfl, l5_2, m5_2⟩
    refine wpList_store_row rfl 29 (.tmp 5) (.tmp 13) rfl _ (e13_2) rfl rfl 29 _ m5_2 (by rw [cellsP_size x13_2]; exact info29) (by rw [cellsP_size x13_2]; rfl) (cellsP_one x13_2) ?_
    have n5_2 := setRow_heap _ _ _ (e13_2) _ _ m5_2
    replace hb2 := setRow_below hb2 l5_2 (e13_2)
    generalize hw2_1 : u2.setRow g5_2 (e13_2) = u2_1 at n5_2 hb2  ⊢
    clear hw2_1 m5_2
    have hO2 := (hO1).trans (hb2.mono (hO1).size)
    have lwn5_2 := Nat.le_trans (hO1).size l5_2
    have hT2 := Tab5.below hT1 hb2
    refine hK2 _ _ ?_
    clear hK2 K2
    refine wp_seq_k fun K3 hK3 => ?_
    refine wp_plain_inv 5 (specs [PtV (bp), Bts (l2), Bts ((l2).take 32), PtV ((bp).nm (valD ((l2).take 32))), Box u2_1.heap.size (ptc zeroE zeroE zeroE zeroE) 29]) (specs_stb ⟨PtV.stb _, Bts.stb _, Bts.stb _, PtV.stb _, Box.stb _ _ _, trivial⟩) (by kernel_rfl) ?_ ?_
    · refine ⟨fun a w hB hfr hdep => Step.plain rfl (Does.call 16 #[] (by kernel_rfl) (cBase w (Tab5.below hT2 hB).toTab)),
        fun a w hB hfr hdep => Step.plain rfl (dMove (R := Bts (l2)) rfl (use (hfr 1 (by kernel_rfl)) ((Bts.stb _) _ _ _ hB ((Bts.stb _) _ _ _ hb2 ((Bts.stb _) _ _ _ hb1 hv2))))),
        fun a w hB hfr hdep => Step.plain rfl (Does.call 10 #[(a.eval (.tmp 15)), .int .i64 32] (by kernel_rfl) (cFew 32 w (hdep 1 15 (by kernel_rfl)) (by decide))),
        fun a w hB hfr hdep => Step.plain rfl (Does.call 17 #[(a.eval (.tmp 14)), (a.eval (.tmp 16))] (by kernel_rfl) (cMulP w w (Tab5.below hT2 hB).toTab (hdep 0 14 (by kernel_rfl)) (hdep 2 16 (by kernel_rfl)) (Dig.take hd2 _) (by rw [List.length_take]; omega))),
        fun a w hB hfr hdep => Step.plain rfl (dAlloc29 hB.size rfl), trivial⟩
    intro u3 hb3
    simp only [List.take, List.drop, FinAll, Act.put, List.setIfInBounds_toArray, List.set_cons_succ, List.set_cons_zero]
    rintro v14_3 h14_3 v15_3 h15_3 v16_3 h16_3 _ ⟨e17_3, rfl, x17_3⟩ _ ⟨g6_3, rfl, l6_3, m6_3⟩
    refine wpList_store_row rfl 29 (.tmp 6) (.tmp 17) rfl _ (e17_3) rfl rfl 29 _ m6_3 (by rw [cellsP_size x17_3]; exact info29) (by rw [cellsP_size x17_3]; rfl) (cellsP_one x17_3) ?_
    have n6_3 := setRow_heap _ _ _ (e17_3) _ _ m6_3
    replace hb3 := setRow_below hb3 l6_3 (e17_3)
    generalize hw3_1 : u3.setRow g6_3 (e17_3) = u3_1 at n6_3 hb3  ⊢
    clear hw3_1 m6_3
    have hO3 := (hO2).trans (hb3.mono (hO2).size)
    have n5_2__3 := block_below hb3 (lt_of_heap n5_2) n5_2
    have lwn6_3 := Nat.le_trans (hO2).size l6_3
    have hT3 := Tab5.below hT2 hb3
    refine hK3 _ _ ?_
    clear hK3 K3
    refine wp_seq_k fun K4 hK4 => ?_
    refine wp_plain_inv 7 (specs [PtV ((bp).nm (valD ((l1).take 32))), Own u3_1.heap.size (digs 32 (Pt.enc ((bp).nm (valD ((l1).take 32))))), Tup2 (PtV ((bp).nm (valD ((l1).take 32)))) (Is (.int .i64 0)), Tup2 (PtV ((bp).nm (valD ((l1).take 32)))) (Is (.int .i64 0)), PtV ((bp).nm (valD ((l1).take 32))), Is (.int .i64 0), Box u3_1.heap.size (ptc zeroE zeroE zeroE zeroE) 29]) (specs_stb ⟨PtV.stb _, Own.stb _ _, Tup2.stb (PtV.stb _) (Is.stb _), Tup2.stb (PtV.stb _) (Is.stb _), PtV.stb _, Is.stb _, Box.stb _ _ _, trivial⟩) (by kernel_rfl) ?_ ?_
    · refine ⟨fun a w hB hfr hdep => Step.plain rfl (dLoadPt x13_2 (block_below hB (lt_of_heap n5_2__3) n5_2__3) rfl (hfr 5 (by kernel_rfl)) (fun _ h => h)),
        fun a w hB hfr hdep => Step.plain rfl (Does.call 14 #[(a.eval (.tmp 19))] (by kernel_rfl) (ownLo hB.size (cPBytes w w (hdep 0 19 (by kernel_rfl))))),
        fun a w hB hfr hdep => Step.plain rfl (Does.call 11 #[(a.eval (.tmp 20))] (by kernel_rfl) (cReadPt w (Tab5.below hT3 hB) (Own.bts (hdep 1 20 (by kernel_rfl)) (by first | decide | (rw [digs_len]; omega))) (digs_len _ _) (digs_dig _ _) (valD_enc _))),
        fun a w hB hfr hdep => Step.plain rfl (dMove (R := Tup2 (PtV ((bp).nm (valD ((l1).take 32)))) (Is (.int .i64 0))) rfl (hdep 2 21 (by kernel_rfl))),
        fun a w hB hfr hdep => Step.plain rfl (dExt0 rfl (hdep 3 18 (by kernel_rfl))),
        fun a w hB hfr hdep => Step.plain rfl (dExt1 rfl (hdep 3 18 (by kernel_rfl))),
        fun a w hB hfr hdep => Step.plain rfl (dAlloc29 hB.size rfl), trivial⟩
    intro u4 hb4
    simp only [List.take, List.drop, FinAll, Act.put, List.setIfInBounds_toArray, List.set_cons_succ, List.set_cons_zero]
    rintro v19_4 h19_4 v20_4 h20_4 v21_4 h21_4 v18_4 h18_4 _ ⟨e22_4, rfl, x22_4⟩ _ rfl _ ⟨g7_4, rfl, l7_4, m7_4⟩
    refine wpList_store_row rfl 29 (.tmp 7) (.tmp 22) rfl _ (e22_4) rfl rfl 29 _ m7_4 (by rw [cellsP_size x22_4]; exact info29) (by rw [cellsP_size x22_4]; rfl) (cellsP_one x22_4) ?_
    have n7_4 := setRow_heap _ _ _ (e22_4) _ _ m7_4
    replace hb4 := setRow_below hb4 l7_4 (e22_4)
    generalize hw4_1 : u4.setRow g7_4 (e22_4) = u4_1 at n7_4 hb4  ⊢
    clear hw4_1 m7_4
    refine wpList_assign rfl rfl rfl ?_
    simp only [Act.put, Act.eval, Array.getD_eq_getD_getElem?, List.getElem?_toArray, List.getElem?_cons_succ, List.getElem?_cons_zero, Option.getD_some, List.setIfInBounds_toArray, List.set_cons_succ, List.set_cons_zero]
    have hO4 := (hO3).trans (hb4.mono (hO3).size)
    have n5_2__4 := block_below hb4 (lt_of_heap n5_2__3) n5_2__3
    have n6_3__4 := block_below hb4 (lt_of_heap n6_3) n6_3
    have lwn7_4 := Nat.le_trans (hO3).size l7_4
    have hT4 := Tab5.below hT3 hb4
    refine hK4 _ _ ?_
    clear hK4 K4
    refine wp_seq_k fun K5 hK5 => ?_
    refine wp_region_inv 8 (specs [PtV ((bp).nm (valD ((l1).take 32))), Own u4_1.heap.size (digs 32 (Pt.enc ((bp).nm (valD ((l1).take 32))))), Is (.string (strOf (digs 32 (Pt.enc ((bp).nm (valD ((l1).take 32))))))), PtV ((bp).nm (valD ((l2).take 32))), Own u4_1.heap.size (digs 32 (Pt.enc ((bp).nm (valD ((l2).take 32))))), Is (.string (strOf (digs 32 (Pt.enc ((bp).nm (valD ((l2).take 32))))))), Is (.bool true), Is (.bool true)]) (by kernel_rfl) (specs_stb ⟨PtV.stb _, Own.stb _ _, Is.stb _, PtV.stb _, Own.stb _ _, Is.stb _, Is.stb _, Is.stb _, trivial⟩) (by kernel_rfl) ?_ ?_
    · refine ⟨fun a w hB hfr hdep => Step.plain rfl (dLoadPt x13_2 (block_below hB (lt_of_heap n5_2__4) n5_2__4) rfl (hfr 5 (by kernel_rfl)) (fun _ h => h)),
        fun a w hB hfr hdep => Step.plain rfl (Does.call 14 #[(a.eval (.tmp 24))] (by kernel_rfl) (ownLo hB.size (cPBytes w w (hdep 0 24 (by kernel_rfl))))),
        fun a w hB hfr hdep => Step.plain rfl (dConvOwn rfl (hdep 1 25 (by kernel_rfl))),
        fun a w hB hfr hdep => Step.plain rfl (dLoadPt x17_3 (block_below hB (lt_of_heap n6_3__4) n6_3__4) rfl (hfr 6 (by kernel_rfl)) (fun _ h => h)),
        fun a w hB hfr hdep => Step.plain rfl (Does.call 14 #[(a.eval (.tmp 27))] (by kernel_rfl) (ownLo hB.size (cPBytes w w (hdep 3 27 (by kernel_rfl))))),
        fun a w hB hfr hdep => Step.plain rfl (dConvOwn rfl (hdep 4 28 (by kernel_rfl))),
        fun a w hB hfr hdep => Step.plain rfl (Does.run _ (run_eqStrB (heq) rfl (hdep 2 26 (by kernel_rfl)) (hdep 5 29 (by kernel_rfl))) rfl),
        fun a w hB hfr hdep => Step.plain rfl (dAssign (R := Is (.bool true)) rfl (hdep 6 30 (by kernel_rfl))), trivial⟩
    intro u5 hb5
    simp only [List.take, List.drop, FinAll, Act.put, List.setIfInBounds_toArray, List.set_cons_succ, List.set_cons_zero]
    rintro v24_5 h24_5 v25_5 h25_5 _ rfl v27_5 h27_5 v28_5 h28_5 _ rfl _ rfl _ rfl
    have hO5 := (hO4).trans (hb5.mono (hO4).size)
    have n5_2__5 := block_below hb5 (lt_of_heap n5_2__4) n5_2__4
    have n6_3__5 := block_below hb5 (lt_of_heap n6_3__4) n6_3__4
    have n7_4__5 := block_below hb5 (lt_of_heap n7_4) n7_4
    have hT5 := Tab5.below hT4 hb5
    refine hK5 _ _ ?_
    clear hK5 K5
    refine wp_seq_k fun K6 hK6 => ?_
    refine wp_plain_inv 18 (specs [Is (.int .i64 0), Is (.bool true), Is (.bool true), PtV ((bp).nm (valD ((l1).take 32))), PtV ((bp).nm (valD ((l1).take 32))), Is (.bool true), Is (.bool true), Is (.bool true), Is (.bool true), PtV ((bp).nm (valD ((l1).take 32))), PtV ((bp).nm (valD ((l2).take 32))), Is (.bool true), Is (.bool true), Is (.bool true), Is (.bool true), Is (.bool true), Is (.bool true), Is (.bool true)]) (specs_stb ⟨Is.stb _, Is.stb _, Is.stb _, PtV.stb _, PtV.stb _, Is.stb _, Is.stb _, Is.stb _, Is.stb _, PtV.stb _, PtV.stb _, Is.stb _, Is.stb _, Is.stb _, Is.stb _, Is.stb _, Is.stb _, Is.stb _, trivial⟩) (by kernel_rfl) ?_ ?_
    · refine ⟨fun a w hB hfr hdep => Step.plain rfl (dMove (R := Is (.int .i64 0)) rfl (hfr 8 (by kernel_rfl))),
        fun a w hB hfr hdep => Step.plain rfl (Does.run _ (run_binO rfl (hdep 0 31 (by kernel_rfl)) rfl (by kernel_rfl)) rfl),
        fun a w hB hfr hdep => Step.plain rfl (dMove (R := Is (.bool true)) rfl (hdep 1 32 (by kernel_rfl))),
        fun a w hB hfr hdep => Step.yes 2 33 true rfl rfl (hdep 2 33 (by kernel_rfl)) (dLoadPt x22_4 (block_below hB (lt_of_heap n7_4__5) n7_4__5) rfl (hfr 7 (by kernel_rfl)) (fun _ h => h)),
        fun a w hB hfr hdep => Step.yes 2 33 true rfl rfl (hdep 2 33 (by kernel_rfl)) (dLoadPt x13_2 (block_below hB (lt_of_heap n5_2__5) n5_2__5) rfl (hfr 5 (by kernel_rfl)) (fun _ h => h)),
        fun a w hB hfr hdep => Step.yes 2 33 true rfl rfl (hdep 2 33 (by kernel_rfl)) (Does.call 24 #[(a.eval (.tmp 34)), (a.eval (.tmp 35))] (by kernel_rfl) (cPEqT rfl w w w (hdep 3 34 (by kernel_rfl)) (hdep 4 35 (by kernel_rfl)))),
        fun a w hB hfr hdep => Step.plain rfl (dPickT rfl (hdep 2 33 (by kernel_rfl)) (hdep 5 36 (by kernel_rfl))),
        fun a w hB hfr hdep => Step.plain rfl (dMove (R := Is (.bool true)) rfl (hdep 6 37 (by kernel_rfl))),
        fun a w hB hfr hdep => Step.yes 7 38 true rfl rfl (hdep 7 38 (by kernel_rfl)) (dMove (R := Is (.bool true)) rfl (hfr 9 (by kernel_rfl))),
        fun a w hB hfr hdep => Step.yes 7 38 true rfl rfl (hdep 7 38 (by kernel_rfl)) (dLoadPt x13_2 (block_below hB (lt_of_heap n5_2__5) n5_2__5) rfl (hfr 5 (by kernel_rfl)) (fun _ h => h)),
        fun a w hB hfr hdep => Step.yes 7 38 true rfl rfl (hdep 7 38 (by kernel_rfl)) (dLoadPt x17_3 (block_below hB (lt_of_heap n6_3__5) n6_3__5) rfl (hfr 6 (by kernel_rfl)) (fun _ h => h)),
        fun a w hB hfr hdep => Step.yes 7 38 true rfl rfl (hdep 7 38 (by kernel_rfl)) (Does.call 24 #[(a.eval (.tmp 40)), (a.eval (.tmp 41))] (by kernel_rfl) (cPEqT hpq w w w (hdep 9 40 (by kernel_rfl)) (hdep 10 41 (by kernel_rfl)))),
        fun a w hB hfr hdep => Step.yes 7 38 true rfl rfl (hdep 7 38 (by kernel_rfl)) (Does.run _ (run_binO rfl (hdep 8 39 (by kernel_rfl)) (hdep 11 42 (by kernel_rfl)) (by kernel_rfl)) rfl),
        fun a w hB hfr hdep => Step.plain rfl (dPickT rfl (hdep 7 38 (by kernel_rfl)) (hdep 12 43 (by kernel_rfl))),
        fun a w hB hfr hdep => Step.plain rfl (dMove (R := Is (.bool true)) rfl (hdep 13 44 (by kernel_rfl))),
        fun a w hB hfr hdep => Step.yes 14 45 true rfl rfl (hdep 14 45 (by kernel_rfl)) (Does.call 13 #[] (by kernel_rfl) (cLives w (Tab5.below hT5 hB).toTab)),
        fun a w hB hfr hdep => Step.plain rfl (dPickT rfl (hdep 14 45 (by kernel_rfl)) (hdep 15 46 (by kernel_rfl))),
        fun a w hB hfr hdep => Step.plain rfl (dAssign (R := Is (.bool true)) rfl (hdep 16 47 (by kernel_rfl))), trivial⟩
    intro u6 hb6
    simp only [List.take, List.drop, FinAll, Act.put, List.setIfInBounds_toArray, List.set_cons_succ, List.set_cons_zero]
    rintro _ rfl _ rfl _ rfl v34_6 h34_6 v35_6 h35_6 _ rfl _ rfl _ rfl _ rfl v40_6 h40_6 v41_6 h41_6 _ rfl _ rfl _ rfl _ rfl _ rfl _ rfl _ rfl
    have hO6 := (hO5).trans (hb6.mono (hO5).size)
    have n5_2__6 := block_below hb6 (lt_of_heap n5_2__5) n5_2__5
    have n6_3__6 := block_below hb6 (lt_of_heap n6_3__5) n6_3__5
    have n7_4__6 := block_below hb6 (lt_of_heap n7_4__5) n7_4__5
    have hT6 := Tab5.below hT5 hb6
    refine hK6 _ _ ?_
    clear hK6 K6
    refine wp_ret ?_
    refine bodyPost_ret (results_tmp rfl _ _ _) rfl ?_
    exact ⟨_, rfl, hO6, rfl⟩
  · have heq : ((strOf (digs 32 (Pt.enc ((bp).nm (valD ((l1).take 32)))))).toList == (strOf (digs 32 (Pt.enc ((bp).nm (valD ((l2).take 32)))))).toList) = false := by
      rw [strOf_eq (digs_dig _ _) (digs_dig _ _)]
      exact decide_eq_false fun h => hpq (digs_enc_inj h)
    have hO0 : Below w.heap.size w w := Below.refl _ _
    go_enter Tryd.func8, Tryd.ntmps8
    refine wp_seq_k fun K1 hK1 => ?_
    refine wp_plain_inv 1 (specs [Is (.bool false)]) (specs_stb ⟨Is.stb _, trivial⟩) (by kernel_rfl) ?_ ?_
    · refine ⟨fun a w hB hfr hdep => Step.plain rfl (dAssign (R := Is (.bool false)) rfl rfl), trivial⟩
    intro u1 hb1
    simp only [List.take, List.drop, FinAll, Act.put, List.setIfInBounds_toArray, List.set_cons_succ, List.set_cons_zero]
    rintro _ rfl
    have hO1 := (hO0).trans (hb1.mono (hO0).size)
    have hT1 := Tab5.below hT hb1
    refine hK1 _ _ ?_
    clear hK1 K1
    refine wp_seq_k fun K2 hK2 => ?_
    refine wp_plain_inv 5 (specs [PtV (bp), Bts (l1), Bts ((l1).take 32), PtV ((bp).nm (valD ((l1).take 32))), Box u1.heap.size (ptc zeroE zeroE zeroE zeroE) 29]) (specs_stb ⟨PtV.stb _, Bts.stb _, Bts.stb _, PtV.stb _, Box.stb _ _ _, trivial⟩) (by kernel_rfl) ?_ ?_
    · refine ⟨fun a w hB hfr hdep => Step.plain rfl (Does.call 16 #[] (by kernel_rfl) (cBase w (Tab5.below hT1 hB).toTab)),
        fun a w hB hfr hdep => Step.plain rfl (dMove (R := Bts (l1)) rfl (use (hfr 0 (by kernel_rfl)) ((Bts.stb _) _ _ _ hB ((Bts.stb _) _ _ _ hb1 hv1)))),
        fun a w hB hfr hdep => Step.plain rfl (Does.call 10 #[(a.eval (.tmp 11)), .int .i64 32] (by kernel_rfl) (cFew 32 w (hdep 1 11 (by kernel_rfl)) (by decide))),
        fun a w hB hfr hdep => Step.plain rfl (Does.call 17 #[(a.eval (.tmp 10)), (a.eval (.tmp 12))] (by kernel_rfl) (cMulP w w (Tab5.below hT1 hB).toTab (hdep 0 10 (by kernel_rfl)) (hdep 2 12 (by kernel_rfl)) (Dig.take hd1 _) (by rw [List.length_take]; omega))),
        fun a w hB hfr hdep => Step.plain rfl (dAlloc29 hB.size rfl), trivial⟩
    intro u2 hb2
    simp only [List.take, List.drop, FinAll, Act.put, List.setIfInBounds_toArray, List.set_cons_succ, List.set_cons_zero]
    rintro v10_2 h10_2 v11_2 h11_2 v12_2 h12_2 _ ⟨e13_2, rfl, x13_2⟩ _ ⟨g5_2, rfl, l5_2, m5_2⟩
    refine wpList_store_row rfl 29 (.tmp 5) (.tmp 13) rfl _ (e13_2) rfl rfl 29 _ m5_2 (by rw [cellsP_size x13_2]; exact info29) (by rw [cellsP_size x13_2]; rfl) (cellsP_one x13_2) ?_
    have n5_2 := setRow_heap _ _ _ (e13_2) _ _ m5_2
    replace hb2 := setRow_below hb2 l5_2 (e13_2)
    generalize hw2_1 : u2.setRow g5_2 (e13_2) = u2_1 at n5_2 hb2  ⊢
    clear hw2_1 m5_2
    have hO2 := (hO1).trans (hb2.mono (hO1).size)
    have lwn5_2 := Nat.le_trans (hO1).size l5_2
    have hT2 := Tab5.below hT1 hb2
    refine hK2 _ _ ?_
    clear hK2 K2
    refine wp_seq_k fun K3 hK3 => ?_
    refine wp_plain_inv 5 (specs [PtV (bp), Bts (l2), Bts ((l2).take 32), PtV ((bp).nm (valD ((l2).take 32))), Box u2_1.heap.size (ptc zeroE zeroE zeroE zeroE) 29]) (specs_stb ⟨PtV.stb _, Bts.stb _, Bts.stb _, PtV.stb _, Box.stb _ _ _, trivial⟩) (by kernel_rfl) ?_ ?_
    · refine ⟨fun a w hB hfr hdep => Step.plain rfl (Does.call 16 #[] (by kernel_rfl) (cBase w (Tab5.below hT2 hB).toTab)),
        fun a w hB hfr hdep => Step.plain rfl (dMove (R := Bts (l2)) rfl (use (hfr 1 (by kernel_rfl)) ((Bts.stb _) _ _ _ hB ((Bts.stb _) _ _ _ hb2 ((Bts.stb _) _ _ _ hb1 hv2))))),
        fun a w hB hfr hdep => Step.plain rfl (Does.call 10 #[(a.eval (.tmp 15)), .int .i64 32] (by kernel_rfl) (cFew 32 w (hdep 1 15 (by kernel_rfl)) (by decide))),
        fun a w hB hfr hdep => Step.plain rfl (Does.call 17 #[(a.eval (.tmp 14)), (a.eval (.tmp 16))] (by kernel_rfl) (cMulP w w (Tab5.below hT2 hB).toTab (hdep 0 14 (by kernel_rfl)) (hdep 2 16 (by kernel_rfl)) (Dig.take hd2 _) (by rw [List.length_take]; omega))),
        fun a w hB hfr hdep => Step.plain rfl (dAlloc29 hB.size rfl), trivial⟩
    intro u3 hb3
    simp only [List.take, List.drop, FinAll, Act.put, List.setIfInBounds_toArray, List.set_cons_succ, List.set_cons_zero]
    rintro v14_3 h14_3 v15_3 h15_3 v16_3 h16_3 _ ⟨e17_3, rfl, x17_3⟩ _ ⟨g6_3, rfl, l6_3, m6_3⟩
    refine wpList_store_row rfl 29 (.tmp 6) (.tmp 17) rfl _ (e17_3) rfl rfl 29 _ m6_3 (by rw [cellsP_size x17_3]; exact info29) (by rw [cellsP_size x17_3]; rfl) (cellsP_one x17_3) ?_
    have n6_3 := setRow_heap _ _ _ (e17_3) _ _ m6_3
    replace hb3 := setRow_below hb3 l6_3 (e17_3)
    generalize hw3_1 : u3.setRow g6_3 (e17_3) = u3_1 at n6_3 hb3  ⊢
    clear hw3_1 m6_3
    have hO3 := (hO2).trans (hb3.mono (hO2).size)
    have n5_2__3 := block_below hb3 (lt_of_heap n5_2) n5_2
    have lwn6_3 := Nat.le_trans (hO2).size l6_3
    have hT3 := Tab5.below hT2 hb3
    refine hK3 _ _ ?_
    clear hK3 K3
    refine wp_seq_k fun K4 hK4 => ?_
    refine wp_plain_inv 7 (specs [PtV ((bp).nm (valD ((l1).take 32))), Own u3_1.heap.size (digs 32 (Pt.enc ((bp).nm (valD ((l1).take 32))))), Tup2 (PtV ((bp).nm (valD ((l1).take 32)))) (Is (.int .i64 0)), Tup2 (PtV ((bp).nm (valD ((l1).take 32)))) (Is (.int .i64 0)), PtV ((bp).nm (valD ((l1).take 32))), Is (.int .i64 0), Box u3_1.heap.size (ptc zeroE zeroE zeroE zeroE) 29]) (specs_stb ⟨PtV.stb _, Own.stb _ _, Tup2.stb (PtV.stb _) (Is.stb _), Tup2.stb (PtV.stb _) (Is.stb _), PtV.stb _, Is.stb _, Box.stb _ _ _, trivial⟩) (by kernel_rfl) ?_ ?_
    · refine ⟨fun a w hB hfr hdep => Step.plain rfl (dLoadPt x13_2 (block_below hB (lt_of_heap n5_2__3) n5_2__3) rfl (hfr 5 (by kernel_rfl)) (fun _ h => h)),
        fun a w hB hfr hdep => Step.plain rfl (Does.call 14 #[(a.eval (.tmp 19))] (by kernel_rfl) (ownLo hB.size (cPBytes w w (hdep 0 19 (by kernel_rfl))))),
        fun a w hB hfr hdep => Step.plain rfl (Does.call 11 #[(a.eval (.tmp 20))] (by kernel_rfl) (cReadPt w (Tab5.below hT3 hB) (Own.bts (hdep 1 20 (by kernel_rfl)) (by first | decide | (rw [digs_len]; omega))) (digs_len _ _) (digs_dig _ _) (valD_enc _))),
        fun a w hB hfr hdep => Step.plain rfl (dMove (R := Tup2 (PtV ((bp).nm (valD ((l1).take 32)))) (Is (.int .i64 0))) rfl (hdep 2 21 (by kernel_rfl))),
        fun a w hB hfr hdep => Step.plain rfl (dExt0 rfl (hdep 3 18 (by kernel_rfl))),
        fun a w hB hfr hdep => Step.plain rfl (dExt1 rfl (hdep 3 18 (by kernel_rfl))),
        fun a w hB hfr hdep => Step.plain rfl (dAlloc29 hB.size rfl), trivial⟩
    intro u4 hb4
    simp only [List.take, List.drop, FinAll, Act.put, List.setIfInBounds_toArray, List.set_cons_succ, List.set_cons_zero]
    rintro v19_4 h19_4 v20_4 h20_4 v21_4 h21_4 v18_4 h18_4 _ ⟨e22_4, rfl, x22_4⟩ _ rfl _ ⟨g7_4, rfl, l7_4, m7_4⟩
    refine wpList_store_row rfl 29 (.tmp 7) (.tmp 22) rfl _ (e22_4) rfl rfl 29 _ m7_4 (by rw [cellsP_size x22_4]; exact info29) (by rw [cellsP_size x22_4]; rfl) (cellsP_one x22_4) ?_
    have n7_4 := setRow_heap _ _ _ (e22_4) _ _ m7_4
    replace hb4 := setRow_below hb4 l7_4 (e22_4)
    generalize hw4_1 : u4.setRow g7_4 (e22_4) = u4_1 at n7_4 hb4  ⊢
    clear hw4_1 m7_4
    refine wpList_assign rfl rfl rfl ?_
    simp only [Act.put, Act.eval, Array.getD_eq_getD_getElem?, List.getElem?_toArray, List.getElem?_cons_succ, List.getElem?_cons_zero, Option.getD_some, List.setIfInBounds_toArray, List.set_cons_succ, List.set_cons_zero]
    have hO4 := (hO3).trans (hb4.mono (hO3).size)
    have n5_2__4 := block_below hb4 (lt_of_heap n5_2__3) n5_2__3
    have n6_3__4 := block_below hb4 (lt_of_heap n6_3) n6_3
    have lwn7_4 := Nat.le_trans (hO3).size l7_4
    have hT4 := Tab5.below hT3 hb4
    refine hK4 _ _ ?_
    clear hK4 K4
    refine wp_seq_k fun K5 hK5 => ?_
    refine wp_region_inv 8 (specs [PtV ((bp).nm (valD ((l1).take 32))), Own u4_1.heap.size (digs 32 (Pt.enc ((bp).nm (valD ((l1).take 32))))), Is (.string (strOf (digs 32 (Pt.enc ((bp).nm (valD ((l1).take 32))))))), PtV ((bp).nm (valD ((l2).take 32))), Own u4_1.heap.size (digs 32 (Pt.enc ((bp).nm (valD ((l2).take 32))))), Is (.string (strOf (digs 32 (Pt.enc ((bp).nm (valD ((l2).take 32))))))), Is (.bool false), Is (.bool false)]) (by kernel_rfl) (specs_stb ⟨PtV.stb _, Own.stb _ _, Is.stb _, PtV.stb _, Own.stb _ _, Is.stb _, Is.stb _, Is.stb _, trivial⟩) (by kernel_rfl) ?_ ?_
    · refine ⟨fun a w hB hfr hdep => Step.plain rfl (dLoadPt x13_2 (block_below hB (lt_of_heap n5_2__4) n5_2__4) rfl (hfr 5 (by kernel_rfl)) (fun _ h => h)),
        fun a w hB hfr hdep => Step.plain rfl (Does.call 14 #[(a.eval (.tmp 24))] (by kernel_rfl) (ownLo hB.size (cPBytes w w (hdep 0 24 (by kernel_rfl))))),
        fun a w hB hfr hdep => Step.plain rfl (dConvOwn rfl (hdep 1 25 (by kernel_rfl))),
        fun a w hB hfr hdep => Step.plain rfl (dLoadPt x17_3 (block_below hB (lt_of_heap n6_3__4) n6_3__4) rfl (hfr 6 (by kernel_rfl)) (fun _ h => h)),
        fun a w hB hfr hdep => Step.plain rfl (Does.call 14 #[(a.eval (.tmp 27))] (by kernel_rfl) (ownLo hB.size (cPBytes w w (hdep 3 27 (by kernel_rfl))))),
        fun a w hB hfr hdep => Step.plain rfl (dConvOwn rfl (hdep 4 28 (by kernel_rfl))),
        fun a w hB hfr hdep => Step.plain rfl (Does.run _ (run_eqStrB (heq) rfl (hdep 2 26 (by kernel_rfl)) (hdep 5 29 (by kernel_rfl))) rfl),
        fun a w hB hfr hdep => Step.plain rfl (dAssign (R := Is (.bool false)) rfl (hdep 6 30 (by kernel_rfl))), trivial⟩
    intro u5 hb5
    simp only [List.take, List.drop, FinAll, Act.put, List.setIfInBounds_toArray, List.set_cons_succ, List.set_cons_zero]
    rintro v24_5 h24_5 v25_5 h25_5 _ rfl v27_5 h27_5 v28_5 h28_5 _ rfl _ rfl _ rfl
    have hO5 := (hO4).trans (hb5.mono (hO4).size)
    have n5_2__5 := block_below hb5 (lt_of_heap n5_2__4) n5_2__4
    have n6_3__5 := block_below hb5 (lt_of_heap n6_3__4) n6_3__4
    have n7_4__5 := block_below hb5 (lt_of_heap n7_4) n7_4
    have hT5 := Tab5.below hT4 hb5
    refine hK5 _ _ ?_
    clear hK5 K5
    refine wp_seq_k fun K6 hK6 => ?_
    refine wp_plain_inv 18 (specs [Is (.int .i64 0), Is (.bool true), Is (.bool true), PtV ((bp).nm (valD ((l1).take 32))), PtV ((bp).nm (valD ((l1).take 32))), Is (.bool true), Is (.bool true), Is (.bool true), Is (.bool false), PtV ((bp).nm (valD ((l1).take 32))), PtV ((bp).nm (valD ((l2).take 32))), Is (.bool false), Is (.bool true), Is (.bool true), Is (.bool true), Is (.bool true), Is (.bool true), Is (.bool true)]) (specs_stb ⟨Is.stb _, Is.stb _, Is.stb _, PtV.stb _, PtV.stb _, Is.stb _, Is.stb _, Is.stb _, Is.stb _, PtV.stb _, PtV.stb _, Is.stb _, Is.stb _, Is.stb _, Is.stb _, Is.stb _, Is.stb _, Is.stb _, trivial⟩) (by kernel_rfl) ?_ ?_
    · refine ⟨fun a w hB hfr hdep => Step.plain rfl (dMove (R := Is (.int .i64 0)) rfl (hfr 8 (by kernel_rfl))),
        fun a w hB hfr hdep => Step.plain rfl (Does.run _ (run_binO rfl (hdep 0 31 (by kernel_rfl)) rfl (by kernel_rfl)) rfl),
        fun a w hB hfr hdep => Step.plain rfl (dMove (R := Is (.bool true)) rfl (hdep 1 32 (by kernel_rfl))),
        fun a w hB hfr hdep => Step.yes 2 33 true rfl rfl (hdep 2 33 (by kernel_rfl)) (dLoadPt x22_4 (block_below hB (lt_of_heap n7_4__5) n7_4__5) rfl (hfr 7 (by kernel_rfl)) (fun _ h => h)),
        fun a w hB hfr hdep => Step.yes 2 33 true rfl rfl (hdep 2 33 (by kernel_rfl)) (dLoadPt x13_2 (block_below hB (lt_of_heap n5_2__5) n5_2__5) rfl (hfr 5 (by kernel_rfl)) (fun _ h => h)),
        fun a w hB hfr hdep => Step.yes 2 33 true rfl rfl (hdep 2 33 (by kernel_rfl)) (Does.call 24 #[(a.eval (.tmp 34)), (a.eval (.tmp 35))] (by kernel_rfl) (cPEqT rfl w w w (hdep 3 34 (by kernel_rfl)) (hdep 4 35 (by kernel_rfl)))),
        fun a w hB hfr hdep => Step.plain rfl (dPickT rfl (hdep 2 33 (by kernel_rfl)) (hdep 5 36 (by kernel_rfl))),
        fun a w hB hfr hdep => Step.plain rfl (dMove (R := Is (.bool true)) rfl (hdep 6 37 (by kernel_rfl))),
        fun a w hB hfr hdep => Step.yes 7 38 true rfl rfl (hdep 7 38 (by kernel_rfl)) (dMove (R := Is (.bool false)) rfl (hfr 9 (by kernel_rfl))),
        fun a w hB hfr hdep => Step.yes 7 38 true rfl rfl (hdep 7 38 (by kernel_rfl)) (dLoadPt x13_2 (block_below hB (lt_of_heap n5_2__5) n5_2__5) rfl (hfr 5 (by kernel_rfl)) (fun _ h => h)),
        fun a w hB hfr hdep => Step.yes 7 38 true rfl rfl (hdep 7 38 (by kernel_rfl)) (dLoadPt x17_3 (block_below hB (lt_of_heap n6_3__5) n6_3__5) rfl (hfr 6 (by kernel_rfl)) (fun _ h => h)),
        fun a w hB hfr hdep => Step.yes 7 38 true rfl rfl (hdep 7 38 (by kernel_rfl)) (Does.call 24 #[(a.eval (.tmp 40)), (a.eval (.tmp 41))] (by kernel_rfl) (cPEqF hpq w w w (hdep 9 40 (by kernel_rfl)) (hdep 10 41 (by kernel_rfl)))),
        fun a w hB hfr hdep => Step.yes 7 38 true rfl rfl (hdep 7 38 (by kernel_rfl)) (Does.run _ (run_binO rfl (hdep 8 39 (by kernel_rfl)) (hdep 11 42 (by kernel_rfl)) (by kernel_rfl)) rfl),
        fun a w hB hfr hdep => Step.plain rfl (dPickT rfl (hdep 7 38 (by kernel_rfl)) (hdep 12 43 (by kernel_rfl))),
        fun a w hB hfr hdep => Step.plain rfl (dMove (R := Is (.bool true)) rfl (hdep 13 44 (by kernel_rfl))),
        fun a w hB hfr hdep => Step.yes 14 45 true rfl rfl (hdep 14 45 (by kernel_rfl)) (Does.call 13 #[] (by kernel_rfl) (cLives w (Tab5.below hT5 hB).toTab)),
        fun a w hB hfr hdep => Step.plain rfl (dPickT rfl (hdep 14 45 (by kernel_rfl)) (hdep 15 46 (by kernel_rfl))),
        fun a w hB hfr hdep => Step.plain rfl (dAssign (R := Is (.bool true)) rfl (hdep 16 47 (by kernel_rfl))), trivial⟩
    intro u6 hb6
    simp only [List.take, List.drop, FinAll, Act.put, List.setIfInBounds_toArray, List.set_cons_succ, List.set_cons_zero]
    rintro _ rfl _ rfl _ rfl v34_6 h34_6 v35_6 h35_6 _ rfl _ rfl _ rfl _ rfl v40_6 h40_6 v41_6 h41_6 _ rfl _ rfl _ rfl _ rfl _ rfl _ rfl _ rfl
    have hO6 := (hO5).trans (hb6.mono (hO5).size)
    have n5_2__6 := block_below hb6 (lt_of_heap n5_2__5) n5_2__5
    have n6_3__6 := block_below hb6 (lt_of_heap n6_3__5) n6_3__5
    have n7_4__6 := block_below hb6 (lt_of_heap n7_4__5) n7_4__5
    have hT6 := Tab5.below hT5 hb6
    refine hK6 _ _ ?_
    clear hK6 K6
    refine wp_ret ?_
    refine bodyPost_ret (results_tmp rfl _ _ _) rfl ?_
    exact ⟨_, rfl, hO6, rfl⟩
end Go.Proofs.YtpfcboakafbnlaaDoor
