/-
  The walk of CurveAdds.
-/
import Derived.Test.YtpfcboakafbnlaaDoorQA
set_option linter.unusedVariables false
namespace Go.Proofs.YtpfcboakafbnlaaDoor
open Go.RowKit Go.Sort Go.BigFrame
set_option maxRecDepth 100000
set_option maxHeartbeats 2000000
theorem curveAdds4 {v1 v2 : Value} {l1 l2 : List Nat} (w : World) (hT : Tab w) (hv1 : Bts l1 v1 w) (hv2 : Bts l2 v2 w) (hd1 : Dig l1) (hd2 : Dig l2) : Ret 4 #[v1, v2] w (Is (.bool true)) := by
  unfold Ret
  have hO0 : Below w.heap.size w w := Below.refl _ _
  go_enter Tryd.func4, Tryd.ntmps4
  refine wp_seq_k fun K1 hK1 => ?_
  refine wp_plain_inv 1 (specs [Is (.bool false)]) (specs_stb ⟨Is.stb _, trivial⟩) (by kernel_rfl) ?_ ?_
  · refine ⟨fun a w hB hfr hdep => Step.plain rfl (dAssign (R := Is (.bool false)) rfl rfl), trivial⟩
  intro u1 hb1
  simp only [List.take, List.drop, FinAll, Act.put, List.setIfInBounds_toArray, List.set_cons_succ, List.set_cons_zero]
  rintro _ rfl
  have hO1 := (hO0).trans (hb1.mono (hO0).size)
  have hT1 := Tab.below hT hb1
  refine hK1 _ _ ?_
  clear hK1 K1
  refine wp_seq_k fun K2 hK2 => ?_
  refine wp_plain_inv 5 (specs [PtV (bp), Bts (l1), Bts ((l1).take 2), PtV ((bp).nm (valD ((l1).take 2))), Box u1.heap.size (ptc zeroE zeroE zeroE zeroE) 29]) (specs_stb ⟨PtV.stb _, Bts.stb _, Bts.stb _, PtV.stb _, Box.stb _ _ _, trivial⟩) (by kernel_rfl) ?_ ?_
  · refine ⟨fun a w hB hfr hdep => Step.plain rfl (Does.call 16 #[] (by kernel_rfl) (cBase w (Tab.below hT1 hB))),
      fun a w hB hfr hdep => Step.plain rfl (dMove (R := Bts (l1)) rfl (use (hfr 0 (by kernel_rfl)) ((Bts.stb _) _ _ _ hB ((Bts.stb _) _ _ _ hb1 hv1)))),
      fun a w hB hfr hdep => Step.plain rfl (Does.call 10 #[(a.eval (.tmp 13)), .int .i64 2] (by kernel_rfl) (cFew 2 w (hdep 1 13 (by kernel_rfl)) (by decide))),
      fun a w hB hfr hdep => Step.plain rfl (Does.call 17 #[(a.eval (.tmp 12)), (a.eval (.tmp 14))] (by kernel_rfl) (cMulP w w (Tab.below hT1 hB) (hdep 0 12 (by kernel_rfl)) (hdep 2 14 (by kernel_rfl)) (Dig.take hd1 _) (by rw [List.length_take]; omega))),
      fun a w hB hfr hdep => Step.plain rfl (dAlloc29 hB.size rfl), trivial⟩
  intro u2 hb2
  simp only [List.take, List.drop, FinAll, Act.put, List.setIfInBounds_toArray, List.set_cons_succ, List.set_cons_zero]
  rintro v12_2 h12_2 v13_2 h13_2 v14_2 h14_2 _ ⟨e15_2, rfl, x15_2⟩ _ ⟨g5_2, rfl, l5_2, m5_2⟩
  refine wpList_store_row rfl 29 (.tmp 5) (.tmp 15) rfl _ (e15_2) rfl rfl 29 _ m5_2 (by rw [cellsP_size x15_2]; exact info29) (by rw [cellsP_size x15_2]; rfl) (cellsP_one x15_2) ?_
  have n5_2 := setRow_heap _ _ _ (e15_2) _ _ m5_2
  replace hb2 := setRow_below hb2 l5_2 (e15_2)
  generalize hw2_1 : u2.setRow g5_2 (e15_2) = u2_1 at n5_2 hb2  ⊢
  clear hw2_1 m5_2
  have hO2 := (hO1).trans (hb2.mono (hO1).size)
  have lwn5_2 := Nat.le_trans (hO1).size l5_2
  have hT2 := Tab.below hT1 hb2
  refine hK2 _ _ ?_
  clear hK2 K2
  obtain ⟨p, hp⟩ : ∃ p, p = (bp).nm (valD ((l1).take 2)) := ⟨_, rfl⟩
  rw [← hp] at x15_2
  refine wp_seq_k fun K3 hK3 => ?_
  refine wp_plain_inv 5 (specs [PtV (bp), Bts (l2), Bts ((l2).take 2), PtV ((bp).nm (valD ((l2).take 2))), Box u2_1.heap.size (ptc zeroE zeroE zeroE zeroE) 29]) (specs_stb ⟨PtV.stb _, Bts.stb _, Bts.stb _, PtV.stb _, Box.stb _ _ _, trivial⟩) (by kernel_rfl) ?_ ?_
  · refine ⟨fun a w hB hfr hdep => Step.plain rfl (Does.call 16 #[] (by kernel_rfl) (cBase w (Tab.below hT2 hB))),
      fun a w hB hfr hdep => Step.plain rfl (dMove (R := Bts (l2)) rfl (use (hfr 1 (by kernel_rfl)) ((Bts.stb _) _ _ _ hB ((Bts.stb _) _ _ _ hb2 ((Bts.stb _) _ _ _ hb1 hv2))))),
      fun a w hB hfr hdep => Step.plain rfl (Does.call 10 #[(a.eval (.tmp 17)), .int .i64 2] (by kernel_rfl) (cFew 2 w (hdep 1 17 (by kernel_rfl)) (by decide))),
      fun a w hB hfr hdep => Step.plain rfl (Does.call 17 #[(a.eval (.tmp 16)), (a.eval (.tmp 18))] (by kernel_rfl) (cMulP w w (Tab.below hT2 hB) (hdep 0 16 (by kernel_rfl)) (hdep 2 18 (by kernel_rfl)) (Dig.take hd2 _) (by rw [List.length_take]; omega))),
      fun a w hB hfr hdep => Step.plain rfl (dAlloc29 hB.size rfl), trivial⟩
  intro u3 hb3
  simp only [List.take, List.drop, FinAll, Act.put, List.setIfInBounds_toArray, List.set_cons_succ, List.set_cons_zero]
  rintro v16_3 h16_3 v17_3 h17_3 v18_3 h18_3 _ ⟨e19_3, rfl, x19_3⟩ _ ⟨g6_3, rfl, l6_3, m6_3⟩
  refine wpList_store_row rfl 29 (.tmp 6) (.tmp 19) rfl _ (e19_3) rfl rfl 29 _ m6_3 (by rw [cellsP_size x19_3]; exact info29) (by rw [cellsP_size x19_3]; rfl) (cellsP_one x19_3) ?_
  have n6_3 := setRow_heap _ _ _ (e19_3) _ _ m6_3
  replace hb3 := setRow_below hb3 l6_3 (e19_3)
  generalize hw3_1 : u3.setRow g6_3 (e19_3) = u3_1 at n6_3 hb3  ⊢
  clear hw3_1 m6_3
  have hO3 := (hO2).trans (hb3.mono (hO2).size)
  have n5_2__3 := block_below hb3 (lt_of_heap n5_2) n5_2
  have lwn6_3 := Nat.le_trans (hO2).size l6_3
  have hT3 := Tab.below hT2 hb3
  refine hK3 _ _ ?_
  clear hK3 K3
  obtain ⟨q, hq⟩ : ∃ q, q = (bp).nm (valD ((l2).take 2)) := ⟨_, rfl⟩
  rw [← hq] at x19_3
  refine wp_seq_k fun K4 hK4 => ?_
  refine wp_plain_inv 7 (specs [PtV (p), Own u3_1.heap.size (digs 32 (Pt.enc (p))), Tup2 (RPt ((p).x) ((p).y)) (Is (.bool true)), Tup2 (RPt ((p).x) ((p).y)) (Is (.bool true)), RPt ((p).x) ((p).y), Is (.bool true), Box u3_1.heap.size (#[.slice none 0 0, .slice none 0 0]) 35]) (specs_stb ⟨PtV.stb _, Own.stb _ _, Tup2.stb (RPt.stb _ _) (Is.stb _), Tup2.stb (RPt.stb _ _) (Is.stb _), RPt.stb _ _, Is.stb _, Box.stb _ _ _, trivial⟩) (by kernel_rfl) ?_ ?_
  · refine ⟨fun a w hB hfr hdep => Step.plain rfl (dLoadPt x15_2 (block_below hB (lt_of_heap n5_2__3) n5_2__3) rfl (hfr 5 (by kernel_rfl)) (fun _ h => h)),
      fun a w hB hfr hdep => Step.plain rfl (Does.call 14 #[(a.eval (.tmp 21))] (by kernel_rfl) (ownLo hB.size (cPBytes w w (hdep 0 21 (by kernel_rfl))))),
      fun a w hB hfr hdep => Step.plain rfl (Does.call 12 #[(a.eval (.tmp 22))] (by kernel_rfl) (rReadPt w (Own.bts (hdep 1 22 (by kernel_rfl)) (by first | decide | (rw [digs_len]; omega))) (digs_len _ _) (digs_dig _ _) (valD_enc _))),
      fun a w hB hfr hdep => Step.plain rfl (dMove (R := Tup2 (RPt ((p).x) ((p).y)) (Is (.bool true))) rfl (hdep 2 23 (by kernel_rfl))),
      fun a w hB hfr hdep => Step.plain rfl (dExt0 rfl (hdep 3 20 (by kernel_rfl))),
      fun a w hB hfr hdep => Step.plain rfl (dExt1 rfl (hdep 3 20 (by kernel_rfl))),
      fun a w hB hfr hdep => Step.plain rfl (dAlloc35 hB.size rfl), trivial⟩
  intro u4 hb4
  simp only [List.take, List.drop, FinAll, Act.put, List.setIfInBounds_toArray, List.set_cons_succ, List.set_cons_zero]
  rintro v21_4 h21_4 v22_4 h22_4 v23_4 h23_4 v20_4 h20_4 _ ⟨p24_4, q24_4, rfl, x24_4, y24_4⟩ _ rfl _ ⟨g7_4, rfl, l7_4, m7_4⟩
  refine wpList_store_row rfl 35 (.tmp 7) (.tmp 24) rfl _ (#[p24_4, q24_4]) rfl rfl 35 _ m7_4 info35 rfl (rpt_one x24_4 y24_4) ?_
  have n7_4 := setRow_heap _ _ _ (#[p24_4, q24_4]) _ _ m7_4
  replace hb4 := setRow_below hb4 l7_4 (#[p24_4, q24_4])
  replace x24_4 := Rw.setRow x24_4 m7_4 nz35 (#[p24_4, q24_4])
  replace y24_4 := Rw.setRow y24_4 m7_4 nz35 (#[p24_4, q24_4])
  generalize hw4_1 : u4.setRow g7_4 (#[p24_4, q24_4]) = u4_1 at n7_4 hb4 x24_4 y24_4  ⊢
  clear hw4_1 m7_4
  refine wpList_assign rfl rfl rfl ?_
  simp only [Act.put, Act.eval, Array.getD_eq_getD_getElem?, List.getElem?_toArray, List.getElem?_cons_succ, List.getElem?_cons_zero, Option.getD_some, List.setIfInBounds_toArray, List.set_cons_succ, List.set_cons_zero]
  have hO4 := (hO3).trans (hb4.mono (hO3).size)
  have n5_2__4 := block_below hb4 (lt_of_heap n5_2__3) n5_2__3
  have n6_3__4 := block_below hb4 (lt_of_heap n6_3) n6_3
  have lwn7_4 := Nat.le_trans (hO3).size l7_4
  have hT4 := Tab.below hT3 hb4
  refine hK4 _ _ ?_
  clear hK4 K4
  refine wp_seq_k fun K5 hK5 => ?_
  refine wp_plain_inv 7 (specs [PtV (q), Own u4_1.heap.size (digs 32 (Pt.enc (q))), Tup2 (RPt ((q).x) ((q).y)) (Is (.bool true)), Tup2 (RPt ((q).x) ((q).y)) (Is (.bool true)), RPt ((q).x) ((q).y), Is (.bool true), Box u4_1.heap.size (#[.slice none 0 0, .slice none 0 0]) 35]) (specs_stb ⟨PtV.stb _, Own.stb _ _, Tup2.stb (RPt.stb _ _) (Is.stb _), Tup2.stb (RPt.stb _ _) (Is.stb _), RPt.stb _ _, Is.stb _, Box.stb _ _ _, trivial⟩) (by kernel_rfl) ?_ ?_
  · refine ⟨fun a w hB hfr hdep => Step.plain rfl (dLoadPt x19_3 (block_below hB (lt_of_heap n6_3__4) n6_3__4) rfl (hfr 6 (by kernel_rfl)) (fun _ h => h)),
      fun a w hB hfr hdep => Step.plain rfl (Does.call 14 #[(a.eval (.tmp 27))] (by kernel_rfl) (ownLo hB.size (cPBytes w w (hdep 0 27 (by kernel_rfl))))),
      fun a w hB hfr hdep => Step.plain rfl (Does.call 12 #[(a.eval (.tmp 28))] (by kernel_rfl) (rReadPt w (Own.bts (hdep 1 28 (by kernel_rfl)) (by first | decide | (rw [digs_len]; omega))) (digs_len _ _) (digs_dig _ _) (valD_enc _))),
      fun a w hB hfr hdep => Step.plain rfl (dMove (R := Tup2 (RPt ((q).x) ((q).y)) (Is (.bool true))) rfl (hdep 2 29 (by kernel_rfl))),
      fun a w hB hfr hdep => Step.plain rfl (dExt0 rfl (hdep 3 26 (by kernel_rfl))),
      fun a w hB hfr hdep => Step.plain rfl (dExt1 rfl (hdep 3 26 (by kernel_rfl))),
      fun a w hB hfr hdep => Step.plain rfl (dAlloc35 hB.size rfl), trivial⟩
  intro u5 hb5
  simp only [List.take, List.drop, FinAll, Act.put, List.setIfInBounds_toArray, List.set_cons_succ, List.set_cons_zero]
  rintro v27_5 h27_5 v28_5 h28_5 v29_5 h29_5 v26_5 h26_5 _ ⟨p30_5, q30_5, rfl, x30_5, y30_5⟩ _ rfl _ ⟨g9_5, rfl, l9_5, m9_5⟩
  refine wpList_store_row rfl 35 (.tmp 9) (.tmp 30) rfl _ (#[p30_5, q30_5]) rfl rfl 35 _ m9_5 info35 rfl (rpt_one x30_5 y30_5) ?_
  have n9_5 := setRow_heap _ _ _ (#[p30_5, q30_5]) _ _ m9_5
  replace hb5 := setRow_below hb5 l9_5 (#[p30_5, q30_5])
  replace x30_5 := Rw.setRow x30_5 m9_5 nz35 (#[p30_5, q30_5])
  replace y30_5 := Rw.setRow y30_5 m9_5 nz35 (#[p30_5, q30_5])
  generalize hw5_1 : u5.setRow g9_5 (#[p30_5, q30_5]) = u5_1 at n9_5 hb5 x30_5 y30_5  ⊢
  clear hw5_1 m9_5
  refine wpList_assign rfl rfl rfl ?_
  simp only [Act.put, Act.eval, Array.getD_eq_getD_getElem?, List.getElem?_toArray, List.getElem?_cons_succ, List.getElem?_cons_zero, Option.getD_some, List.setIfInBounds_toArray, List.set_cons_succ, List.set_cons_zero]
  have hO5 := (hO4).trans (hb5.mono (hO4).size)
  have n5_2__5 := block_below hb5 (lt_of_heap n5_2__4) n5_2__4
  have n6_3__5 := block_below hb5 (lt_of_heap n6_3__4) n6_3__4
  have n7_4__5 := block_below hb5 (lt_of_heap n7_4) n7_4
  have lwn9_5 := Nat.le_trans (hO4).size l9_5
  have hT5 := Tab.below hT4 hb5
  refine hK5 _ _ ?_
  clear hK5 K5
  refine wp_seq_k fun KO hKO => ?_
  refine wp_seq_k fun K6 hK6 => ?_
  refine wp_plain_inv 6 (specs [Is (.bool true), Is (.bool false), Is (.bool false), Is (.bool true), Is (.bool false), Is (.bool false)]) (specs_stb ⟨Is.stb _, Is.stb _, Is.stb _, Is.stb _, Is.stb _, Is.stb _, trivial⟩) (by kernel_rfl) ?_ ?_
  · refine ⟨fun a w hB hfr hdep => Step.plain rfl (dMove (R := Is (.bool true)) rfl (hfr 8 (by kernel_rfl))),
      fun a w hB hfr hdep => Step.plain rfl (Does.run _ (run_notO rfl (hdep 0 32 (by kernel_rfl))) rfl),
      fun a w hB hfr hdep => Step.plain rfl (dMove (R := Is (.bool false)) rfl (hdep 1 33 (by kernel_rfl))),
      fun a w hB hfr hdep => Step.yes 2 34 false rfl rfl (hdep 2 34 (by kernel_rfl)) (dMove (R := Is (.bool true)) rfl (hfr 10 (by kernel_rfl))),
      fun a w hB hfr hdep => Step.yes 2 34 false rfl rfl (hdep 2 34 (by kernel_rfl)) (Does.run _ (run_notO rfl (hdep 3 35 (by kernel_rfl))) rfl),
      fun a w hB hfr hdep => Step.plain rfl (dPickF rfl (hdep 2 34 (by kernel_rfl)) (hdep 4 36 (by kernel_rfl))), trivial⟩
  intro u6 hb6
  simp only [List.take, List.drop, FinAll, Act.put, List.setIfInBounds_toArray, List.set_cons_succ, List.set_cons_zero]
  rintro _ rfl _ rfl _ rfl _ rfl _ rfl _ rfl
  have hO6 := (hO5).trans (hb6.mono (hO5).size)
  have n5_2__6 := block_below hb6 (lt_of_heap n5_2__5) n5_2__5
  have n6_3__6 := block_below hb6 (lt_of_heap n6_3__5) n6_3__5
  have n7_4__6 := block_below hb6 (lt_of_heap n7_4__5) n7_4__5
  have n9_5__6 := block_below hb6 (lt_of_heap n9_5) n9_5
  have hT6 := Tab.below hT5 hb6
  refine hK6 _ _ ?_
  clear hK6 K6
  refine wp_cond_false rfl ?_
  refine wp_skip ?_
  refine hKO _ _ ?_
  clear hKO KO
  refine wp_seq_k fun K7 hK7 => ?_
  refine wp_plain_inv 4 (specs [RPt ((p).x) ((p).y), RPt ((q).x) ((q).y), RPt (((p).add (q)).x) (((p).add (q)).y), Box u6.heap.size (#[.slice none 0 0, .slice none 0 0]) 35]) (specs_stb ⟨RPt.stb _ _, RPt.stb _ _, RPt.stb _ _, Box.stb _ _ _, trivial⟩) (by kernel_rfl) ?_ ?_
  · refine ⟨fun a w hB hfr hdep => Step.plain rfl (dLoadRPt (Rw.stb _ _ _ _ hb6 (Rw.stb _ _ _ _ hb5 x24_4)) hB (Rw.stb _ _ _ _ hb6 (Rw.stb _ _ _ _ hb5 y24_4)) (block_below hB (lt_of_heap n7_4__6) n7_4__6) rfl (hfr 7 (by kernel_rfl))),
      fun a w hB hfr hdep => Step.plain rfl (dLoadRPt (Rw.stb _ _ _ _ hb6 x30_5) hB (Rw.stb _ _ _ _ hb6 y30_5) (block_below hB (lt_of_heap n9_5__6) n9_5__6) rfl (hfr 9 (by kernel_rfl))),
      fun a w hB hfr hdep => Step.plain rfl (Does.call 18 #[(a.eval (.tmp 38)), (a.eval (.tmp 39))] (by kernel_rfl) (rAddPt w (hdep 0 38 (by kernel_rfl)) (hdep 1 39 (by kernel_rfl)))),
      fun a w hB hfr hdep => Step.plain rfl (dAlloc35 hB.size rfl), trivial⟩
  intro u7 hb7
  simp only [List.take, List.drop, FinAll, Act.put, List.setIfInBounds_toArray, List.set_cons_succ, List.set_cons_zero]
  rintro v38_7 h38_7 v39_7 h39_7 _ ⟨p40_7, q40_7, rfl, x40_7, y40_7⟩ _ ⟨g11_7, rfl, l11_7, m11_7⟩
  refine wpList_store_row rfl 35 (.tmp 11) (.tmp 40) rfl _ (#[p40_7, q40_7]) rfl rfl 35 _ m11_7 info35 rfl (rpt_one x40_7 y40_7) ?_
  have n11_7 := setRow_heap _ _ _ (#[p40_7, q40_7]) _ _ m11_7
  replace hb7 := setRow_below hb7 l11_7 (#[p40_7, q40_7])
  replace x40_7 := Rw.setRow x40_7 m11_7 nz35 (#[p40_7, q40_7])
  replace y40_7 := Rw.setRow y40_7 m11_7 nz35 (#[p40_7, q40_7])
  generalize hw7_1 : u7.setRow g11_7 (#[p40_7, q40_7]) = u7_1 at n11_7 hb7 x40_7 y40_7  ⊢
  clear hw7_1 m11_7
  have hO7 := (hO6).trans (hb7.mono (hO6).size)
  have n5_2__7 := block_below hb7 (lt_of_heap n5_2__6) n5_2__6
  have n6_3__7 := block_below hb7 (lt_of_heap n6_3__6) n6_3__6
  have n7_4__7 := block_below hb7 (lt_of_heap n7_4__6) n7_4__6
  have n9_5__7 := block_below hb7 (lt_of_heap n9_5__6) n9_5__6
  have lwn11_7 := Nat.le_trans (hO6).size l11_7
  have hT7 := Tab.below hT6 hb7
  refine hK7 _ _ ?_
  clear hK7 K7
  refine wp_seq_k fun K8 hK8 => ?_
  refine wp_region_inv 13 (specs [PtV (p), PtV (q), PtV ((p).add (q)), Own u7_1.heap.size (digs 32 (Pt.enc ((p).add (q)))), Is (.string (strOf (digs 32 (Pt.enc ((p).add (q)))))), RPt (((p).add (q)).x) (((p).add (q)).y), OwnC u7_1.heap.size (digs 32 (Pt.enc ((p).add (q)))), Is (.string (strOf (digs 32 (Pt.enc ((p).add (q)))))), Is (.bool true), Is (.bool true), Is (.bool true), Is (.bool true), Is (.bool true)]) (by kernel_rfl) (specs_stb ⟨PtV.stb _, PtV.stb _, PtV.stb _, Own.stb _ _, Is.stb _, RPt.stb _ _, OwnC.stb _ _, Is.stb _, Is.stb _, Is.stb _, Is.stb _, Is.stb _, Is.stb _, trivial⟩) (by kernel_rfl) ?_ ?_
  · refine ⟨fun a w hB hfr hdep => Step.plain rfl (dLoadPt x15_2 (block_below hB (lt_of_heap n5_2__7) n5_2__7) rfl (hfr 5 (by kernel_rfl)) (fun _ h => h)),
      fun a w hB hfr hdep => Step.plain rfl (dLoadPt x19_3 (block_below hB (lt_of_heap n6_3__7) n6_3__7) rfl (hfr 6 (by kernel_rfl)) (fun _ h => h)),
      fun a w hB hfr hdep => Step.plain rfl (Does.call 19 #[(a.eval (.tmp 41)), (a.eval (.tmp 42))] (by kernel_rfl) (cPAdd w w w (Tab.below hT7 hB) (hdep 0 41 (by kernel_rfl)) (hdep 1 42 (by kernel_rfl)))),
      fun a w hB hfr hdep => Step.plain rfl (Does.call 14 #[(a.eval (.tmp 43))] (by kernel_rfl) (ownLo hB.size (cPBytes w w (hdep 2 43 (by kernel_rfl))))),
      fun a w hB hfr hdep => Step.plain rfl (dConvOwn rfl (hdep 3 44 (by kernel_rfl))),
      fun a w hB hfr hdep => Step.plain rfl (dLoadRPt x40_7 hB y40_7 (block_below hB (lt_of_heap n11_7) n11_7) rfl (hfr 11 (by kernel_rfl))),
      fun a w hB hfr hdep => Step.plain rfl (Does.call 20 #[(a.eval (.tmp 46))] (by kernel_rfl) (ownCLo hB.size (rPBytes w (hdep 5 46 (by kernel_rfl))))),
      fun a w hB hfr hdep => Step.plain rfl (dConvBts rfl (OwnC.bts (hdep 6 47 (by kernel_rfl)))),
      fun a w hB hfr hdep => Step.plain rfl (Does.run _ (run_eqStrB (str_refl _) rfl (hdep 4 45 (by kernel_rfl)) (hdep 7 48 (by kernel_rfl))) rfl),
      fun a w hB hfr hdep => Step.plain rfl (dMove (R := Is (.bool true)) rfl (hdep 8 49 (by kernel_rfl))),
      fun a w hB hfr hdep => Step.yes 9 50 true rfl rfl (hdep 9 50 (by kernel_rfl)) (Does.call 13 #[] (by kernel_rfl) (cLives w (Tab.below hT7 hB))),
      fun a w hB hfr hdep => Step.plain rfl (dPickT rfl (hdep 9 50 (by kernel_rfl)) (hdep 10 51 (by kernel_rfl))),
      fun a w hB hfr hdep => Step.plain rfl (dAssign (R := Is (.bool true)) rfl (hdep 11 52 (by kernel_rfl))), trivial⟩
  intro u8 hb8
  simp only [List.take, List.drop, FinAll, Act.put, List.setIfInBounds_toArray, List.set_cons_succ, List.set_cons_zero]
  rintro v41_8 h41_8 v42_8 h42_8 v43_8 h43_8 v44_8 h44_8 _ rfl v46_8 h46_8 v47_8 h47_8 _ rfl _ rfl _ rfl _ rfl _ rfl _ rfl
  have hO8 := (hO7).trans (hb8.mono (hO7).size)
  have n5_2__8 := block_below hb8 (lt_of_heap n5_2__7) n5_2__7
  have n6_3__8 := block_below hb8 (lt_of_heap n6_3__7) n6_3__7
  have n7_4__8 := block_below hb8 (lt_of_heap n7_4__7) n7_4__7
  have n9_5__8 := block_below hb8 (lt_of_heap n9_5__7) n9_5__7
  have n11_7__8 := block_below hb8 (lt_of_heap n11_7) n11_7
  have hT8 := Tab.below hT7 hb8
  refine hK8 _ _ ?_
  clear hK8 K8
  refine wp_ret ?_
  refine bodyPost_ret (results_tmp rfl _ _ _) rfl ?_
  exact ⟨_, rfl, hO8, rfl⟩
end Go.Proofs.YtpfcboakafbnlaaDoor
