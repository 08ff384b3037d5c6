/-
  The walk of CurveGroup.
-/
import Derived.Test.YtpfcboakafbnlaaDoorL1
set_option linter.unusedVariables false
namespace Go.Proofs.YtpfcboakafbnlaaDoor
open Go.RowKit Go.Sort Go.BigFrame
set_option maxRecDepth 100000
set_option maxHeartbeats 2000000
theorem curveGroup6 {v1 v2 v3 : Value} {l1 l2 l3 : List Nat} (w : World) (hT : Tab w) (hv1 : Bts l1 v1 w) (hv2 : Bts l2 v2 w) (hv3 : Bts l3 v3 w) (hd1 : Dig l1) (hd2 : Dig l2) (hd3 : Dig l3) : Ret 6 #[v1, v2, v3] w (Is (.bool true)) := by
  unfold Ret
  have hO0 : Below w.heap.size w w := Below.refl _ _
  go_enter Tryd.func6, Tryd.ntmps6
  refine wp_seq_k fun K1 hK1 => ?_
  refine wp_plain_inv 1 (specs [Is (.bool false)]) (specs_stb ⟨Is.stb _, trivial⟩) (by kernel_rfl) ?_ ?_
  · refine ⟨fun a w hB hfr hdep => Step.plain rfl (dAssign (R := Is (.bool false)) rfl rfl), trivial⟩
  intro u1 hb1
  simp only [List.take, List.drop, FinAll, Act.put, List.setIfInBounds_toArray, List.set_cons_succ, List.set_cons_zero]
  rintro _ rfl
  have hO1 := (hO0).trans (hb1.mono (hO0).size)
  have hT1 := Tab.below hT hb1
  refine hK1 _ _ ?_
  clear hK1 K1
  refine wp_seq_k fun K2 hK2 => ?_
  refine wp_plain_inv 5 (specs [PtV (bp), Bts (l1), Bts ((l1).take 32), PtV ((bp).nm (valD ((l1).take 32))), Box u1.heap.size (ptc zeroE zeroE zeroE zeroE) 29]) (specs_stb ⟨PtV.stb _, Bts.stb _, Bts.stb _, PtV.stb _, Box.stb _ _ _, trivial⟩) (by kernel_rfl) ?_ ?_
  · refine ⟨fun a w hB hfr hdep => Step.plain rfl (Does.call 16 #[] (by kernel_rfl) (cBase w (Tab.below hT1 hB))),
      fun a w hB hfr hdep => Step.plain rfl (dMove (R := Bts (l1)) rfl (use (hfr 0 (by kernel_rfl)) ((Bts.stb _) _ _ _ hB ((Bts.stb _) _ _ _ hb1 hv1)))),
      fun a w hB hfr hdep => Step.plain rfl (Does.call 10 #[(a.eval (.tmp 13)), .int .i64 32] (by kernel_rfl) (cFew 32 w (hdep 1 13 (by kernel_rfl)) (by decide))),
      fun a w hB hfr hdep => Step.plain rfl (Does.call 17 #[(a.eval (.tmp 12)), (a.eval (.tmp 14))] (by kernel_rfl) (cMulP w w (Tab.below hT1 hB) (hdep 0 12 (by kernel_rfl)) (hdep 2 14 (by kernel_rfl)) (Dig.take hd1 _) (by rw [List.length_take]; omega))),
      fun a w hB hfr hdep => Step.plain rfl (dAlloc29 hB.size rfl), trivial⟩
  intro u2 hb2
  simp only [List.take, List.drop, FinAll, Act.put, List.setIfInBounds_toArray, List.set_cons_succ, List.set_cons_zero]
  rintro v12_2 h12_2 v13_2 h13_2 v14_2 h14_2 _ ⟨e15_2, rfl, x15_2⟩ _ ⟨g7_2, rfl, l7_2, m7_2⟩
  refine wpList_store_row rfl 29 (.tmp 7) (.tmp 15) rfl _ (e15_2) rfl rfl 29 _ m7_2 (by rw [cellsP_size x15_2]; exact info29) (by rw [cellsP_size x15_2]; rfl) (cellsP_one x15_2) ?_
  have n7_2 := setRow_heap _ _ _ (e15_2) _ _ m7_2
  replace hb2 := setRow_below hb2 l7_2 (e15_2)
  generalize hw2_1 : u2.setRow g7_2 (e15_2) = u2_1 at n7_2 hb2  ⊢
  clear hw2_1 m7_2
  have hO2 := (hO1).trans (hb2.mono (hO1).size)
  have lwn7_2 := Nat.le_trans (hO1).size l7_2
  have hT2 := Tab.below hT1 hb2
  refine hK2 _ _ ?_
  clear hK2 K2
  obtain ⟨p, hp⟩ : ∃ p, p = (bp).nm (valD ((l1).take 32)) := ⟨_, rfl⟩
  rw [← hp] at x15_2
  refine wp_seq_k fun K3 hK3 => ?_
  refine wp_plain_inv 5 (specs [PtV (bp), Bts (l2), Bts ((l2).take 32), PtV ((bp).nm (valD ((l2).take 32))), Box u2_1.heap.size (ptc zeroE zeroE zeroE zeroE) 29]) (specs_stb ⟨PtV.stb _, Bts.stb _, Bts.stb _, PtV.stb _, Box.stb _ _ _, trivial⟩) (by kernel_rfl) ?_ ?_
  · refine ⟨fun a w hB hfr hdep => Step.plain rfl (Does.call 16 #[] (by kernel_rfl) (cBase w (Tab.below hT2 hB))),
      fun a w hB hfr hdep => Step.plain rfl (dMove (R := Bts (l2)) rfl (use (hfr 1 (by kernel_rfl)) ((Bts.stb _) _ _ _ hB ((Bts.stb _) _ _ _ hb2 ((Bts.stb _) _ _ _ hb1 hv2))))),
      fun a w hB hfr hdep => Step.plain rfl (Does.call 10 #[(a.eval (.tmp 17)), .int .i64 32] (by kernel_rfl) (cFew 32 w (hdep 1 17 (by kernel_rfl)) (by decide))),
      fun a w hB hfr hdep => Step.plain rfl (Does.call 17 #[(a.eval (.tmp 16)), (a.eval (.tmp 18))] (by kernel_rfl) (cMulP w w (Tab.below hT2 hB) (hdep 0 16 (by kernel_rfl)) (hdep 2 18 (by kernel_rfl)) (Dig.take hd2 _) (by rw [List.length_take]; omega))),
      fun a w hB hfr hdep => Step.plain rfl (dAlloc29 hB.size rfl), trivial⟩
  intro u3 hb3
  simp only [List.take, List.drop, FinAll, Act.put, List.setIfInBounds_toArray, List.set_cons_succ, List.set_cons_zero]
  rintro v16_3 h16_3 v17_3 h17_3 v18_3 h18_3 _ ⟨e19_3, rfl, x19_3⟩ _ ⟨g8_3, rfl, l8_3, m8_3⟩
  refine wpList_store_row rfl 29 (.tmp 8) (.tmp 19) rfl _ (e19_3) rfl rfl 29 _ m8_3 (by rw [cellsP_size x19_3]; exact info29) (by rw [cellsP_size x19_3]; rfl) (cellsP_one x19_3) ?_
  have n8_3 := setRow_heap _ _ _ (e19_3) _ _ m8_3
  replace hb3 := setRow_below hb3 l8_3 (e19_3)
  generalize hw3_1 : u3.setRow g8_3 (e19_3) = u3_1 at n8_3 hb3  ⊢
  clear hw3_1 m8_3
  have hO3 := (hO2).trans (hb3.mono (hO2).size)
  have n7_2__3 := block_below hb3 (lt_of_heap n7_2) n7_2
  have lwn8_3 := Nat.le_trans (hO2).size l8_3
  have hT3 := Tab.below hT2 hb3
  refine hK3 _ _ ?_
  clear hK3 K3
  obtain ⟨q, hq⟩ : ∃ q, q = (bp).nm (valD ((l2).take 32)) := ⟨_, rfl⟩
  rw [← hq] at x19_3
  refine wp_seq_k fun K4 hK4 => ?_
  refine wp_plain_inv 5 (specs [PtV (bp), Bts (l3), Bts ((l3).take 32), PtV ((bp).nm (valD ((l3).take 32))), Box u3_1.heap.size (ptc zeroE zeroE zeroE zeroE) 29]) (specs_stb ⟨PtV.stb _, Bts.stb _, Bts.stb _, PtV.stb _, Box.stb _ _ _, trivial⟩) (by kernel_rfl) ?_ ?_
  · refine ⟨fun a w hB hfr hdep => Step.plain rfl (Does.call 16 #[] (by kernel_rfl) (cBase w (Tab.below hT3 hB))),
      fun a w hB hfr hdep => Step.plain rfl (dMove (R := Bts (l3)) rfl (use (hfr 2 (by kernel_rfl)) ((Bts.stb _) _ _ _ hB ((Bts.stb _) _ _ _ hb3 ((Bts.stb _) _ _ _ hb2 ((Bts.stb _) _ _ _ hb1 hv3)))))),
      fun a w hB hfr hdep => Step.plain rfl (Does.call 10 #[(a.eval (.tmp 21)), .int .i64 32] (by kernel_rfl) (cFew 32 w (hdep 1 21 (by kernel_rfl)) (by decide))),
      fun a w hB hfr hdep => Step.plain rfl (Does.call 17 #[(a.eval (.tmp 20)), (a.eval (.tmp 22))] (by kernel_rfl) (cMulP w w (Tab.below hT3 hB) (hdep 0 20 (by kernel_rfl)) (hdep 2 22 (by kernel_rfl)) (Dig.take hd3 _) (by rw [List.length_take]; omega))),
      fun a w hB hfr hdep => Step.plain rfl (dAlloc29 hB.size rfl), trivial⟩
  intro u4 hb4
  simp only [List.take, List.drop, FinAll, Act.put, List.setIfInBounds_toArray, List.set_cons_succ, List.set_cons_zero]
  rintro v20_4 h20_4 v21_4 h21_4 v22_4 h22_4 _ ⟨e23_4, rfl, x23_4⟩ _ ⟨g9_4, rfl, l9_4, m9_4⟩
  refine wpList_store_row rfl 29 (.tmp 9) (.tmp 23) rfl _ (e23_4) rfl rfl 29 _ m9_4 (by rw [cellsP_size x23_4]; exact info29) (by rw [cellsP_size x23_4]; rfl) (cellsP_one x23_4) ?_
  have n9_4 := setRow_heap _ _ _ (e23_4) _ _ m9_4
  replace hb4 := setRow_below hb4 l9_4 (e23_4)
  generalize hw4_1 : u4.setRow g9_4 (e23_4) = u4_1 at n9_4 hb4  ⊢
  clear hw4_1 m9_4
  have hO4 := (hO3).trans (hb4.mono (hO3).size)
  have n7_2__4 := block_below hb4 (lt_of_heap n7_2__3) n7_2__3
  have n8_3__4 := block_below hb4 (lt_of_heap n8_3) n8_3
  have lwn9_4 := Nat.le_trans (hO3).size l9_4
  have hT4 := Tab.below hT3 hb4
  refine hK4 _ _ ?_
  clear hK4 K4
  obtain ⟨r, hr⟩ : ∃ r, r = (bp).nm (valD ((l3).take 32)) := ⟨_, rfl⟩
  rw [← hr] at x23_4
  refine wp_seq_k fun K5 hK5 => ?_
  refine wp_region_inv 21 (specs [PtV (p), PtV (q), PtV ((p).add (q)), PtV (q), PtV (p), PtV ((q).add (p)), Is (.bool true), Is (.bool true), PtV (p), PtV (q), PtV ((p).add (q)), PtV (r), PtV (((p).add (q)).add (r)), PtV (p), PtV (q), PtV (r), PtV ((q).add (r)), PtV ((p).add ((q).add (r))), Is (.bool true), Is (.bool true), Is (.bool true)]) (by kernel_rfl) (specs_stb ⟨PtV.stb _, PtV.stb _, PtV.stb _, PtV.stb _, PtV.stb _, PtV.stb _, Is.stb _, Is.stb _, PtV.stb _, PtV.stb _, PtV.stb _, PtV.stb _, PtV.stb _, PtV.stb _, PtV.stb _, PtV.stb _, PtV.stb _, PtV.stb _, Is.stb _, Is.stb _, Is.stb _, trivial⟩) (by kernel_rfl) ?_ ?_
  · refine ⟨fun a w hB hfr hdep => Step.plain rfl (dLoadPt x15_2 (block_below hB (lt_of_heap n7_2__4) n7_2__4) rfl (hfr 7 (by kernel_rfl)) (fun _ h => h)),
      fun a w hB hfr hdep => Step.plain rfl (dLoadPt x19_3 (block_below hB (lt_of_heap n8_3__4) n8_3__4) rfl (hfr 8 (by kernel_rfl)) (fun _ h => h)),
      fun a w hB hfr hdep => Step.plain rfl (Does.call 19 #[(a.eval (.tmp 24)), (a.eval (.tmp 25))] (by kernel_rfl) (cPAdd w w w (Tab.below hT4 hB) (hdep 0 24 (by kernel_rfl)) (hdep 1 25 (by kernel_rfl)))),
      fun a w hB hfr hdep => Step.plain rfl (dLoadPt x19_3 (block_below hB (lt_of_heap n8_3__4) n8_3__4) rfl (hfr 8 (by kernel_rfl)) (fun _ h => h)),
      fun a w hB hfr hdep => Step.plain rfl (dLoadPt x15_2 (block_below hB (lt_of_heap n7_2__4) n7_2__4) rfl (hfr 7 (by kernel_rfl)) (fun _ h => h)),
      fun a w hB hfr hdep => Step.plain rfl (Does.call 19 #[(a.eval (.tmp 27)), (a.eval (.tmp 28))] (by kernel_rfl) (cPAdd w w w (Tab.below hT4 hB) (hdep 3 27 (by kernel_rfl)) (hdep 4 28 (by kernel_rfl)))),
      fun a w hB hfr hdep => Step.plain rfl (Does.call 24 #[(a.eval (.tmp 26)), (a.eval (.tmp 29))] (by kernel_rfl) (cPEqT (Pt.add_comm p q) w w w (hdep 2 26 (by kernel_rfl)) (hdep 5 29 (by kernel_rfl)))),
      fun a w hB hfr hdep => Step.plain rfl (dMove (R := Is (.bool true)) rfl (hdep 6 30 (by kernel_rfl))),
      fun a w hB hfr hdep => Step.yes 7 31 true rfl rfl (hdep 7 31 (by kernel_rfl)) (dLoadPt x15_2 (block_below hB (lt_of_heap n7_2__4) n7_2__4) rfl (hfr 7 (by kernel_rfl)) (fun _ h => h)),
      fun a w hB hfr hdep => Step.yes 7 31 true rfl rfl (hdep 7 31 (by kernel_rfl)) (dLoadPt x19_3 (block_below hB (lt_of_heap n8_3__4) n8_3__4) rfl (hfr 8 (by kernel_rfl)) (fun _ h => h)),
      fun a w hB hfr hdep => Step.yes 7 31 true rfl rfl (hdep 7 31 (by kernel_rfl)) (Does.call 19 #[(a.eval (.tmp 32)), (a.eval (.tmp 33))] (by kernel_rfl) (cPAdd w w w (Tab.below hT4 hB) (hdep 8 32 (by kernel_rfl)) (hdep 9 33 (by kernel_rfl)))),
      fun a w hB hfr hdep => Step.yes 7 31 true rfl rfl (hdep 7 31 (by kernel_rfl)) (dLoadPt x23_4 (block_below hB (lt_of_heap n9_4) n9_4) rfl (hfr 9 (by kernel_rfl)) (fun _ h => h)),
      fun a w hB hfr hdep => Step.yes 7 31 true rfl rfl (hdep 7 31 (by kernel_rfl)) (Does.call 19 #[(a.eval (.tmp 34)), (a.eval (.tmp 35))] (by kernel_rfl) (cPAdd w w w (Tab.below hT4 hB) (hdep 10 34 (by kernel_rfl)) (hdep 11 35 (by kernel_rfl)))),
      fun a w hB hfr hdep => Step.yes 7 31 true rfl rfl (hdep 7 31 (by kernel_rfl)) (dLoadPt x15_2 (block_below hB (lt_of_heap n7_2__4) n7_2__4) rfl (hfr 7 (by kernel_rfl)) (fun _ h => h)),
      fun a w hB hfr hdep => Step.yes 7 31 true rfl rfl (hdep 7 31 (by kernel_rfl)) (dLoadPt x19_3 (block_below hB (lt_of_heap n8_3__4) n8_3__4) rfl (hfr 8 (by kernel_rfl)) (fun _ h => h)),
      fun a w hB hfr hdep => Step.yes 7 31 true rfl rfl (hdep 7 31 (by kernel_rfl)) (dLoadPt x23_4 (block_below hB (lt_of_heap n9_4) n9_4) rfl (hfr 9 (by kernel_rfl)) (fun _ h => h)),
      fun a w hB hfr hdep => Step.yes 7 31 true rfl rfl (hdep 7 31 (by kernel_rfl)) (Does.call 19 #[(a.eval (.tmp 38)), (a.eval (.tmp 39))] (by kernel_rfl) (cPAdd w w w (Tab.below hT4 hB) (hdep 14 38 (by kernel_rfl)) (hdep 15 39 (by kernel_rfl)))),
      fun a w hB hfr hdep => Step.yes 7 31 true rfl rfl (hdep 7 31 (by kernel_rfl)) (Does.call 19 #[(a.eval (.tmp 37)), (a.eval (.tmp 40))] (by kernel_rfl) (cPAdd w w w (Tab.below hT4 hB) (hdep 13 37 (by kernel_rfl)) (hdep 16 40 (by kernel_rfl)))),
      fun a w hB hfr hdep => Step.yes 7 31 true rfl rfl (hdep 7 31 (by kernel_rfl)) (Does.call 24 #[(a.eval (.tmp 36)), (a.eval (.tmp 41))] (by kernel_rfl) (cPEqT (Pt.add_assoc p q r) w w w (hdep 12 36 (by kernel_rfl)) (hdep 17 41 (by kernel_rfl)))),
      fun a w hB hfr hdep => Step.plain rfl (dPickT rfl (hdep 7 31 (by kernel_rfl)) (hdep 18 42 (by kernel_rfl))),
      fun a w hB hfr hdep => Step.plain rfl (dAssign (R := Is (.bool true)) rfl (hdep 19 43 (by kernel_rfl))), trivial⟩
  intro u5 hb5
  simp only [List.take, List.drop, FinAll, Act.put, List.setIfInBounds_toArray, List.set_cons_succ, List.set_cons_zero]
  rintro v24_5 h24_5 v25_5 h25_5 v26_5 h26_5 v27_5 h27_5 v28_5 h28_5 v29_5 h29_5 _ rfl _ rfl v32_5 h32_5 v33_5 h33_5 v34_5 h34_5 v35_5 h35_5 v36_5 h36_5 v37_5 h37_5 v38_5 h38_5 v39_5 h39_5 v40_5 h40_5 v41_5 h41_5 _ rfl _ rfl _ rfl
  have hO5 := (hO4).trans (hb5.mono (hO4).size)
  have n7_2__5 := block_below hb5 (lt_of_heap n7_2__4) n7_2__4
  have n8_3__5 := block_below hb5 (lt_of_heap n8_3__4) n8_3__4
  have n9_4__5 := block_below hb5 (lt_of_heap n9_4) n9_4
  have hT5 := Tab.below hT4 hb5
  refine hK5 _ _ ?_
  clear hK5 K5
  refine wp_seq_k fun K6 hK6 => ?_
  refine wp_region_inv 21 (specs [PtV (p), PtV (Pt.zero), PtV ((p).add (Pt.zero)), PtV (p), Is (.bool true), Is (.bool true), PtV (p), PtV (p), PtV ((p).neg), PtV ((p).add ((p).neg)), PtV (Pt.zero), Is (.bool true), Is (.bool true), Is (.bool true), PtV (p), PtV ((p).neg), PtV (((p).neg).neg), PtV (p), Is (.bool true), Is (.bool true), Is (.bool true)]) (by kernel_rfl) (specs_stb ⟨PtV.stb _, PtV.stb _, PtV.stb _, PtV.stb _, Is.stb _, Is.stb _, PtV.stb _, PtV.stb _, PtV.stb _, PtV.stb _, PtV.stb _, Is.stb _, Is.stb _, Is.stb _, PtV.stb _, PtV.stb _, PtV.stb _, PtV.stb _, Is.stb _, Is.stb _, Is.stb _, trivial⟩) (by kernel_rfl) ?_ ?_
  · refine ⟨fun a w hB hfr hdep => Step.plain rfl (dLoadPt x15_2 (block_below hB (lt_of_heap n7_2__5) n7_2__5) rfl (hfr 7 (by kernel_rfl)) (fun _ h => h)),
      fun a w hB hfr hdep => Step.plain rfl (Does.call 25 #[] (by kernel_rfl) (cZero w)),
      fun a w hB hfr hdep => Step.plain rfl (Does.call 19 #[(a.eval (.tmp 44)), (a.eval (.tmp 45))] (by kernel_rfl) (cPAdd w w w (Tab.below hT5 hB) (hdep 0 44 (by kernel_rfl)) (hdep 1 45 (by kernel_rfl)))),
      fun a w hB hfr hdep => Step.plain rfl (dLoadPt x15_2 (block_below hB (lt_of_heap n7_2__5) n7_2__5) rfl (hfr 7 (by kernel_rfl)) (fun _ h => h)),
      fun a w hB hfr hdep => Step.plain rfl (Does.call 24 #[(a.eval (.tmp 46)), (a.eval (.tmp 47))] (by kernel_rfl) (cPEqT (Pt.add_zero p) w w w (hdep 2 46 (by kernel_rfl)) (hdep 3 47 (by kernel_rfl)))),
      fun a w hB hfr hdep => Step.plain rfl (dMove (R := Is (.bool true)) rfl (hdep 4 48 (by kernel_rfl))),
      fun a w hB hfr hdep => Step.yes 5 49 true rfl rfl (hdep 5 49 (by kernel_rfl)) (dLoadPt x15_2 (block_below hB (lt_of_heap n7_2__5) n7_2__5) rfl (hfr 7 (by kernel_rfl)) (fun _ h => h)),
      fun a w hB hfr hdep => Step.yes 5 49 true rfl rfl (hdep 5 49 (by kernel_rfl)) (dLoadPt x15_2 (block_below hB (lt_of_heap n7_2__5) n7_2__5) rfl (hfr 7 (by kernel_rfl)) (fun _ h => h)),
      fun a w hB hfr hdep => Step.yes 5 49 true rfl rfl (hdep 5 49 (by kernel_rfl)) (Does.call 26 #[(a.eval (.tmp 51))] (by kernel_rfl) (cNeg w w (hdep 7 51 (by kernel_rfl)))),
      fun a w hB hfr hdep => Step.yes 5 49 true rfl rfl (hdep 5 49 (by kernel_rfl)) (Does.call 19 #[(a.eval (.tmp 50)), (a.eval (.tmp 52))] (by kernel_rfl) (cPAdd w w w (Tab.below hT5 hB) (hdep 6 50 (by kernel_rfl)) (hdep 8 52 (by kernel_rfl)))),
      fun a w hB hfr hdep => Step.yes 5 49 true rfl rfl (hdep 5 49 (by kernel_rfl)) (Does.call 25 #[] (by kernel_rfl) (cZero w)),
      fun a w hB hfr hdep => Step.yes 5 49 true rfl rfl (hdep 5 49 (by kernel_rfl)) (Does.call 24 #[(a.eval (.tmp 53)), (a.eval (.tmp 54))] (by kernel_rfl) (cPEqT (Pt.add_neg p) w w w (hdep 9 53 (by kernel_rfl)) (hdep 10 54 (by kernel_rfl)))),
      fun a w hB hfr hdep => Step.plain rfl (dPickT rfl (hdep 5 49 (by kernel_rfl)) (hdep 11 55 (by kernel_rfl))),
      fun a w hB hfr hdep => Step.plain rfl (dMove (R := Is (.bool true)) rfl (hdep 12 56 (by kernel_rfl))),
      fun a w hB hfr hdep => Step.yes 13 57 true rfl rfl (hdep 13 57 (by kernel_rfl)) (dLoadPt x15_2 (block_below hB (lt_of_heap n7_2__5) n7_2__5) rfl (hfr 7 (by kernel_rfl)) (fun _ h => h)),
      fun a w hB hfr hdep => Step.yes 13 57 true rfl rfl (hdep 13 57 (by kernel_rfl)) (Does.call 26 #[(a.eval (.tmp 58))] (by kernel_rfl) (cNeg w w (hdep 14 58 (by kernel_rfl)))),
      fun a w hB hfr hdep => Step.yes 13 57 true rfl rfl (hdep 13 57 (by kernel_rfl)) (Does.call 26 #[(a.eval (.tmp 59))] (by kernel_rfl) (cNeg w w (hdep 15 59 (by kernel_rfl)))),
      fun a w hB hfr hdep => Step.yes 13 57 true rfl rfl (hdep 13 57 (by kernel_rfl)) (dLoadPt x15_2 (block_below hB (lt_of_heap n7_2__5) n7_2__5) rfl (hfr 7 (by kernel_rfl)) (fun _ h => h)),
      fun a w hB hfr hdep => Step.yes 13 57 true rfl rfl (hdep 13 57 (by kernel_rfl)) (Does.call 24 #[(a.eval (.tmp 60)), (a.eval (.tmp 61))] (by kernel_rfl) (cPEqT (Pt.neg_neg p) w w w (hdep 16 60 (by kernel_rfl)) (hdep 17 61 (by kernel_rfl)))),
      fun a w hB hfr hdep => Step.plain rfl (dPickT rfl (hdep 13 57 (by kernel_rfl)) (hdep 18 62 (by kernel_rfl))),
      fun a w hB hfr hdep => Step.plain rfl (dAssign (R := Is (.bool true)) rfl (hdep 19 63 (by kernel_rfl))), trivial⟩
  intro u6 hb6
  simp only [List.take, List.drop, FinAll, Act.put, List.setIfInBounds_toArray, List.set_cons_succ, List.set_cons_zero]
  rintro v44_6 h44_6 v45_6 h45_6 v46_6 h46_6 v47_6 h47_6 _ rfl _ rfl v50_6 h50_6 v51_6 h51_6 v52_6 h52_6 v53_6 h53_6 v54_6 h54_6 _ rfl _ rfl _ rfl v58_6 h58_6 v59_6 h59_6 v60_6 h60_6 v61_6 h61_6 _ rfl _ rfl _ rfl
  have hO6 := (hO5).trans (hb6.mono (hO5).size)
  have n7_2__6 := block_below hb6 (lt_of_heap n7_2__5) n7_2__5
  have n8_3__6 := block_below hb6 (lt_of_heap n8_3__5) n8_3__5
  have n9_4__6 := block_below hb6 (lt_of_heap n9_4__5) n9_4__5
  have hT6 := Tab.below hT5 hb6
  refine hK6 _ _ ?_
  clear hK6 K6
  refine wp_seq_k fun K7 hK7 => ?_
  refine wp_plain_inv 8 (specs [Is (.bool true), Is (.bool true), Is (.bool true), Is (.bool true), Is (.bool true), Is (.bool true), Is (.bool true), Is (.bool true)]) (specs_stb ⟨Is.stb _, Is.stb _, Is.stb _, Is.stb _, Is.stb _, Is.stb _, Is.stb _, Is.stb _, trivial⟩) (by kernel_rfl) ?_ ?_
  · refine ⟨fun a w hB hfr hdep => Step.plain rfl (dMove (R := Is (.bool true)) rfl (hfr 10 (by kernel_rfl))),
      fun a w hB hfr hdep => Step.plain rfl (dMove (R := Is (.bool true)) rfl (hdep 0 64 (by kernel_rfl))),
      fun a w hB hfr hdep => Step.yes 1 65 true rfl rfl (hdep 1 65 (by kernel_rfl)) (dMove (R := Is (.bool true)) rfl (hfr 11 (by kernel_rfl))),
      fun a w hB hfr hdep => Step.plain rfl (dPickT rfl (hdep 1 65 (by kernel_rfl)) (hdep 2 66 (by kernel_rfl))),
      fun a w hB hfr hdep => Step.plain rfl (dMove (R := Is (.bool true)) rfl (hdep 3 67 (by kernel_rfl))),
      fun a w hB hfr hdep => Step.yes 4 68 true rfl rfl (hdep 4 68 (by kernel_rfl)) (Does.call 13 #[] (by kernel_rfl) (cLives w (Tab.below hT6 hB))),
      fun a w hB hfr hdep => Step.plain rfl (dPickT rfl (hdep 4 68 (by kernel_rfl)) (hdep 5 69 (by kernel_rfl))),
      fun a w hB hfr hdep => Step.plain rfl (dAssign (R := Is (.bool true)) rfl (hdep 6 70 (by kernel_rfl))), trivial⟩
  intro u7 hb7
  simp only [List.take, List.drop, FinAll, Act.put, List.setIfInBounds_toArray, List.set_cons_succ, List.set_cons_zero]
  rintro _ rfl _ rfl _ rfl _ rfl _ rfl _ rfl _ rfl _ rfl
  have hO7 := (hO6).trans (hb7.mono (hO6).size)
  have n7_2__7 := block_below hb7 (lt_of_heap n7_2__6) n7_2__6
  have n8_3__7 := block_below hb7 (lt_of_heap n8_3__6) n8_3__6
  have n9_4__7 := block_below hb7 (lt_of_heap n9_4__6) n9_4__6
  have hT7 := Tab.below hT6 hb7
  refine hK7 _ _ ?_
  clear hK7 K7
  refine wp_ret ?_
  refine bodyPost_ret (results_tmp rfl _ _ _) rfl ?_
  exact ⟨_, rfl, hO7, rfl⟩
end Go.Proofs.YtpfcboakafbnlaaDoor
