/-
  plus, Neg.
-/
import Derived.Test.YtpfcboakafbnlaaDoorN1
set_option linter.unusedVariables false
namespace Go.Proofs.YtpfcboakafbnlaaDoor
open Go.RowKit Go.Sort Go.BigFrame
set_option maxRecDepth 100000
set_option maxHeartbeats 2000000
theorem cPlus {p q : Pt} {v1 v2 v3 : Value} (w w0 w1 w2 : World) (h1 : PtV p v1 w0) (h2 : PtV q v2 w1) (h3 : El (dd + dd) v3 w2) : Ret 49 #[v1, v2, v3] w (PtV (p.add q)) := by
  obtain ⟨cs1, rfl, X1, Y1, Z1, T1, h41, hr1⟩ := h1
  obtain ⟨cs2, rfl, X2, Y2, Z2, T2, h42, hr2⟩ := h2
  obtain ⟨d, hd, rfl, hdd⟩ := h3
  unfold Ret
  have hO0 : Below w.heap.size w w := Below.refl _ _
  go_enter Tryd.func49, Tryd.ntmps49
  refine wp_seq_k fun K1 hK1 => ?_
  refine wp_plain_inv 4 (specs [Box w.heap.size (cs1) 29, Box w.heap.size (cs2) 29, Box w.heap.size (elc d) 27, Box w.heap.size (ptc zeroE zeroE zeroE zeroE) 29]) (specs_stb ⟨Box.stb _ _ _, Box.stb _ _ _, Box.stb _ _ _, Box.stb _ _ _, trivial⟩) (by kernel_rfl) ?_ ?_
  · refine ⟨fun a w hB hfr hdep => Step.plain rfl (dBox29 hB.size rfl (hfr 0 (by kernel_rfl)) h41),
      fun a w hB hfr hdep => Step.plain rfl (dBox29 hB.size rfl (hfr 1 (by kernel_rfl)) h42),
      fun a w hB hfr hdep => Step.plain rfl (dBox27 hB.size rfl (hfr 2 (by kernel_rfl)) trivial),
      fun a w hB hfr hdep => Step.plain rfl (dAlloc29 hB.size rfl), trivial⟩
  intro u1 hb1
  simp only [List.take, List.drop, FinAll, Act.put, List.setIfInBounds_toArray, List.set_cons_succ, List.set_cons_zero]
  rintro _ ⟨g3_1, rfl, l3_1, m3_1⟩ _ ⟨g4_1, rfl, l4_1, m4_1⟩ _ ⟨g5_1, rfl, l5_1, m5_1⟩ _ ⟨g6_1, rfl, l6_1, m6_1⟩
  have hO1 := (hO0).trans (hb1.mono (hO0).size)
  have lwm3_1 := Nat.le_trans (hO0).size l3_1
  have lwm4_1 := Nat.le_trans (hO0).size l4_1
  have lwm5_1 := Nat.le_trans (hO0).size l5_1
  have lwm6_1 := Nat.le_trans (hO0).size l6_1
  refine hK1 _ _ ?_
  clear hK1 K1
  refine wp_seq_k fun K2 hK2 => ?_
  refine wp_region_inv 12 (specs [Is (.pointer (some ⟨g3_1, 5, none⟩)), El (Y1), Is (.pointer (some ⟨g3_1, 0, none⟩)), El (X1), El ((Y1) - (X1)), Is (.pointer (some ⟨g4_1, 5, none⟩)), El (Y2), Is (.pointer (some ⟨g4_1, 0, none⟩)), El (X2), El ((Y2) - (X2)), El (((Y1) - (X1)) * ((Y2) - (X2))), Box u1.heap.size (elc zeroE) 27]) (by kernel_rfl) (specs_stb ⟨Is.stb _, El.stb _, Is.stb _, El.stb _, El.stb _, Is.stb _, El.stb _, Is.stb _, El.stb _, El.stb _, El.stb _, Box.stb _ _ _, trivial⟩) (by kernel_rfl) ?_ ?_
  · refine ⟨fun a w hB hfr hdep => Step.plain rfl (dFa29 g3_1 1 (by decide) rfl (hfr 3 (by kernel_rfl))),
      fun a w hB hfr hdep => Step.plain rfl (dLoadPart (k := 1) h41 (block_below hB (lt_of_heap m3_1) m3_1) (by decide) rfl (hdep 0 16 (by kernel_rfl)) (fun _ h => h)),
      fun a w hB hfr hdep => Step.plain rfl (dFa29 g3_1 0 (by decide) rfl (hfr 3 (by kernel_rfl))),
      fun a w hB hfr hdep => Step.plain rfl (dLoadPart (k := 0) h41 (block_below hB (lt_of_heap m3_1) m3_1) (by decide) rfl (hdep 2 18 (by kernel_rfl)) (fun _ h => h)),
      fun a w hB hfr hdep => Step.plain rfl (Does.call 58 #[(a.eval (.tmp 17)), (a.eval (.tmp 19))] (by kernel_rfl) (cSub w w w (hdep 1 17 (by kernel_rfl)) (hdep 3 19 (by kernel_rfl)))),
      fun a w hB hfr hdep => Step.plain rfl (dFa29 g4_1 1 (by decide) rfl (hfr 4 (by kernel_rfl))),
      fun a w hB hfr hdep => Step.plain rfl (dLoadPart (k := 1) h42 (block_below hB (lt_of_heap m4_1) m4_1) (by decide) rfl (hdep 5 21 (by kernel_rfl)) (fun _ h => h)),
      fun a w hB hfr hdep => Step.plain rfl (dFa29 g4_1 0 (by decide) rfl (hfr 4 (by kernel_rfl))),
      fun a w hB hfr hdep => Step.plain rfl (dLoadPart (k := 0) h42 (block_below hB (lt_of_heap m4_1) m4_1) (by decide) rfl (hdep 7 23 (by kernel_rfl)) (fun _ h => h)),
      fun a w hB hfr hdep => Step.plain rfl (Does.call 58 #[(a.eval (.tmp 22)), (a.eval (.tmp 24))] (by kernel_rfl) (cSub w w w (hdep 6 22 (by kernel_rfl)) (hdep 8 24 (by kernel_rfl)))),
      fun a w hB hfr hdep => Step.plain rfl (Does.call 39 #[(a.eval (.tmp 20)), (a.eval (.tmp 25))] (by kernel_rfl) (cMul w w w (hdep 4 20 (by kernel_rfl)) (hdep 9 25 (by kernel_rfl)))),
      fun a w hB hfr hdep => Step.plain rfl (dAlloc27 hB.size rfl), trivial⟩
  intro u2 hb2
  simp only [List.take, List.drop, FinAll, Act.put, List.setIfInBounds_toArray, List.set_cons_succ, List.set_cons_zero]
  rintro _ rfl v17_2 h17_2 _ rfl v19_2 h19_2 v20_2 h20_2 _ rfl v22_2 h22_2 _ rfl v24_2 h24_2 v25_2 h25_2 _ ⟨e26_2, q26_2, rfl, x26_2⟩ _ ⟨g7_2, rfl, l7_2, m7_2⟩
  refine wpList_store_row rfl 27 (.tmp 7) (.tmp 26) rfl _ (elc e26_2) rfl rfl 27 _ m7_2 info26 rfl (elc_one _) ?_
  have n7_2 := setRow_heap _ _ _ (elc e26_2) _ _ m7_2
  replace hb2 := setRow_below hb2 l7_2 (elc e26_2)
  generalize hw2_1 : u2.setRow g7_2 (elc e26_2) = u2_1 at n7_2 hb2  ⊢
  clear hw2_1 m7_2
  have hO2 := (hO1).trans (hb2.mono (hO1).size)
  have m3_1__2 := block_below hb2 (lt_of_heap m3_1) m3_1
  have m4_1__2 := block_below hb2 (lt_of_heap m4_1) m4_1
  have m5_1__2 := block_below hb2 (lt_of_heap m5_1) m5_1
  have m6_1__2 := block_below hb2 (lt_of_heap m6_1) m6_1
  have lwn7_2 := Nat.le_trans (hO1).size l7_2
  refine hK2 _ _ ?_
  clear hK2 K2
  obtain ⟨A, hA⟩ : ∃ A, A = ((Y1) - (X1)) * ((Y2) - (X2)) := ⟨_, rfl⟩
  rw [← hA] at x26_2
  refine wp_seq_k fun K3 hK3 => ?_
  refine wp_region_inv 12 (specs [Is (.pointer (some ⟨g3_1, 5, none⟩)), El (Y1), Is (.pointer (some ⟨g3_1, 0, none⟩)), El (X1), El ((Y1) + (X1)), Is (.pointer (some ⟨g4_1, 5, none⟩)), El (Y2), Is (.pointer (some ⟨g4_1, 0, none⟩)), El (X2), El ((Y2) + (X2)), El (((Y1) + (X1)) * ((Y2) + (X2))), Box u2_1.heap.size (elc zeroE) 27]) (by kernel_rfl) (specs_stb ⟨Is.stb _, El.stb _, Is.stb _, El.stb _, El.stb _, Is.stb _, El.stb _, Is.stb _, El.stb _, El.stb _, El.stb _, Box.stb _ _ _, trivial⟩) (by kernel_rfl) ?_ ?_
  · refine ⟨fun a w hB hfr hdep => Step.plain rfl (dFa29 g3_1 1 (by decide) rfl (hfr 3 (by kernel_rfl))),
      fun a w hB hfr hdep => Step.plain rfl (dLoadPart (k := 1) h41 (block_below hB (lt_of_heap m3_1__2) m3_1__2) (by decide) rfl (hdep 0 27 (by kernel_rfl)) (fun _ h => h)),
      fun a w hB hfr hdep => Step.plain rfl (dFa29 g3_1 0 (by decide) rfl (hfr 3 (by kernel_rfl))),
      fun a w hB hfr hdep => Step.plain rfl (dLoadPart (k := 0) h41 (block_below hB (lt_of_heap m3_1__2) m3_1__2) (by decide) rfl (hdep 2 29 (by kernel_rfl)) (fun _ h => h)),
      fun a w hB hfr hdep => Step.plain rfl (Does.call 56 #[(a.eval (.tmp 28)), (a.eval (.tmp 30))] (by kernel_rfl) (cAdd w w w (hdep 1 28 (by kernel_rfl)) (hdep 3 30 (by kernel_rfl)))),
      fun a w hB hfr hdep => Step.plain rfl (dFa29 g4_1 1 (by decide) rfl (hfr 4 (by kernel_rfl))),
      fun a w hB hfr hdep => Step.plain rfl (dLoadPart (k := 1) h42 (block_below hB (lt_of_heap m4_1__2) m4_1__2) (by decide) rfl (hdep 5 32 (by kernel_rfl)) (fun _ h => h)),
      fun a w hB hfr hdep => Step.plain rfl (dFa29 g4_1 0 (by decide) rfl (hfr 4 (by kernel_rfl))),
      fun a w hB hfr hdep => Step.plain rfl (dLoadPart (k := 0) h42 (block_below hB (lt_of_heap m4_1__2) m4_1__2) (by decide) rfl (hdep 7 34 (by kernel_rfl)) (fun _ h => h)),
      fun a w hB hfr hdep => Step.plain rfl (Does.call 56 #[(a.eval (.tmp 33)), (a.eval (.tmp 35))] (by kernel_rfl) (cAdd w w w (hdep 6 33 (by kernel_rfl)) (hdep 8 35 (by kernel_rfl)))),
      fun a w hB hfr hdep => Step.plain rfl (Does.call 39 #[(a.eval (.tmp 31)), (a.eval (.tmp 36))] (by kernel_rfl) (cMul w w w (hdep 4 31 (by kernel_rfl)) (hdep 9 36 (by kernel_rfl)))),
      fun a w hB hfr hdep => Step.plain rfl (dAlloc27 hB.size rfl), trivial⟩
  intro u3 hb3
  simp only [List.take, List.drop, FinAll, Act.put, List.setIfInBounds_toArray, List.set_cons_succ, List.set_cons_zero]
  rintro _ rfl v28_3 h28_3 _ rfl v30_3 h30_3 v31_3 h31_3 _ rfl v33_3 h33_3 _ rfl v35_3 h35_3 v36_3 h36_3 _ ⟨e37_3, q37_3, rfl, x37_3⟩ _ ⟨g8_3, rfl, l8_3, m8_3⟩
  refine wpList_store_row rfl 27 (.tmp 8) (.tmp 37) rfl _ (elc e37_3) rfl rfl 27 _ m8_3 info26 rfl (elc_one _) ?_
  have n8_3 := setRow_heap _ _ _ (elc e37_3) _ _ m8_3
  replace hb3 := setRow_below hb3 l8_3 (elc e37_3)
  generalize hw3_1 : u3.setRow g8_3 (elc e37_3) = u3_1 at n8_3 hb3  ⊢
  clear hw3_1 m8_3
  have hO3 := (hO2).trans (hb3.mono (hO2).size)
  have m3_1__3 := block_below hb3 (lt_of_heap m3_1__2) m3_1__2
  have m4_1__3 := block_below hb3 (lt_of_heap m4_1__2) m4_1__2
  have m5_1__3 := block_below hb3 (lt_of_heap m5_1__2) m5_1__2
  have m6_1__3 := block_below hb3 (lt_of_heap m6_1__2) m6_1__2
  have n7_2__3 := block_below hb3 (lt_of_heap n7_2) n7_2
  have lwn8_3 := Nat.le_trans (hO2).size l8_3
  refine hK3 _ _ ?_
  clear hK3 K3
  obtain ⟨B, hB⟩ : ∃ B, B = ((Y1) + (X1)) * ((Y2) + (X2)) := ⟨_, rfl⟩
  rw [← hB] at x37_3
  refine wp_seq_k fun K4 hK4 => ?_
  refine wp_region_inv 8 (specs [Is (.pointer (some ⟨g3_1, 15, none⟩)), El (T1), El (dd + dd), El ((T1) * (dd + dd)), Is (.pointer (some ⟨g4_1, 15, none⟩)), El (T2), El (((T1) * (dd + dd)) * (T2)), Box u3_1.heap.size (elc zeroE) 27]) (by kernel_rfl) (specs_stb ⟨Is.stb _, El.stb _, El.stb _, El.stb _, Is.stb _, El.stb _, El.stb _, Box.stb _ _ _, trivial⟩) (by kernel_rfl) ?_ ?_
  · refine ⟨fun a w hB hfr hdep => Step.plain rfl (dFa29 g3_1 3 (by decide) rfl (hfr 3 (by kernel_rfl))),
      fun a w hB hfr hdep => Step.plain rfl (dLoadPart (k := 3) h41 (block_below hB (lt_of_heap m3_1__3) m3_1__3) (by decide) rfl (hdep 0 38 (by kernel_rfl)) (fun _ h => h)),
      fun a w hB hfr hdep => Step.plain rfl (dLoadEl hd hdd (block_below hB (lt_of_heap m5_1__3) m5_1__3) rfl (hfr 5 (by kernel_rfl)) (fun _ h => h)),
      fun a w hB hfr hdep => Step.plain rfl (Does.call 39 #[(a.eval (.tmp 39)), (a.eval (.tmp 40))] (by kernel_rfl) (cMul w w w (hdep 1 39 (by kernel_rfl)) (hdep 2 40 (by kernel_rfl)))),
      fun a w hB hfr hdep => Step.plain rfl (dFa29 g4_1 3 (by decide) rfl (hfr 4 (by kernel_rfl))),
      fun a w hB hfr hdep => Step.plain rfl (dLoadPart (k := 3) h42 (block_below hB (lt_of_heap m4_1__3) m4_1__3) (by decide) rfl (hdep 4 42 (by kernel_rfl)) (fun _ h => h)),
      fun a w hB hfr hdep => Step.plain rfl (Does.call 39 #[(a.eval (.tmp 41)), (a.eval (.tmp 43))] (by kernel_rfl) (cMul w w w (hdep 3 41 (by kernel_rfl)) (hdep 5 43 (by kernel_rfl)))),
      fun a w hB hfr hdep => Step.plain rfl (dAlloc27 hB.size rfl), trivial⟩
  intro u4 hb4
  simp only [List.take, List.drop, FinAll, Act.put, List.setIfInBounds_toArray, List.set_cons_succ, List.set_cons_zero]
  rintro _ rfl v39_4 h39_4 v40_4 h40_4 v41_4 h41_4 _ rfl v43_4 h43_4 _ ⟨e44_4, q44_4, rfl, x44_4⟩ _ ⟨g9_4, rfl, l9_4, m9_4⟩
  refine wpList_store_row rfl 27 (.tmp 9) (.tmp 44) rfl _ (elc e44_4) rfl rfl 27 _ m9_4 info26 rfl (elc_one _) ?_
  have n9_4 := setRow_heap _ _ _ (elc e44_4) _ _ m9_4
  replace hb4 := setRow_below hb4 l9_4 (elc e44_4)
  generalize hw4_1 : u4.setRow g9_4 (elc e44_4) = u4_1 at n9_4 hb4  ⊢
  clear hw4_1 m9_4
  have hO4 := (hO3).trans (hb4.mono (hO3).size)
  have m3_1__4 := block_below hb4 (lt_of_heap m3_1__3) m3_1__3
  have m4_1__4 := block_below hb4 (lt_of_heap m4_1__3) m4_1__3
  have m5_1__4 := block_below hb4 (lt_of_heap m5_1__3) m5_1__3
  have m6_1__4 := block_below hb4 (lt_of_heap m6_1__3) m6_1__3
  have n7_2__4 := block_below hb4 (lt_of_heap n7_2__3) n7_2__3
  have n8_3__4 := block_below hb4 (lt_of_heap n8_3) n8_3
  have lwn9_4 := Nat.le_trans (hO3).size l9_4
  refine hK4 _ _ ?_
  clear hK4 K4
  obtain ⟨C, hC⟩ : ∃ C, C = ((T1) * (dd + dd)) * (T2) := ⟨_, rfl⟩
  rw [← hC] at x44_4
  refine wp_seq_k fun K5 hK5 => ?_
  refine wp_plain_inv 6 (specs [Is (.pointer (some ⟨g3_1, 10, none⟩)), El (Z1), Is (.pointer (some ⟨g4_1, 10, none⟩)), El (Z2), El ((Z1) * (Z2)), Box u4_1.heap.size (elc zeroE) 27]) (specs_stb ⟨Is.stb _, El.stb _, Is.stb _, El.stb _, El.stb _, Box.stb _ _ _, trivial⟩) (by kernel_rfl) ?_ ?_
  · refine ⟨fun a w hB hfr hdep => Step.plain rfl (dFa29 g3_1 2 (by decide) rfl (hfr 3 (by kernel_rfl))),
      fun a w hB hfr hdep => Step.plain rfl (dLoadPart (k := 2) h41 (block_below hB (lt_of_heap m3_1__4) m3_1__4) (by decide) rfl (hdep 0 45 (by kernel_rfl)) (fun _ h => h)),
      fun a w hB hfr hdep => Step.plain rfl (dFa29 g4_1 2 (by decide) rfl (hfr 4 (by kernel_rfl))),
      fun a w hB hfr hdep => Step.plain rfl (dLoadPart (k := 2) h42 (block_below hB (lt_of_heap m4_1__4) m4_1__4) (by decide) rfl (hdep 2 47 (by kernel_rfl)) (fun _ h => h)),
      fun a w hB hfr hdep => Step.plain rfl (Does.call 39 #[(a.eval (.tmp 46)), (a.eval (.tmp 48))] (by kernel_rfl) (cMul w w w (hdep 1 46 (by kernel_rfl)) (hdep 3 48 (by kernel_rfl)))),
      fun a w hB hfr hdep => Step.plain rfl (dAlloc27 hB.size rfl), trivial⟩
  intro u5 hb5
  simp only [List.take, List.drop, FinAll, Act.put, List.setIfInBounds_toArray, List.set_cons_succ, List.set_cons_zero]
  rintro _ rfl v46_5 h46_5 _ rfl v48_5 h48_5 _ ⟨e49_5, q49_5, rfl, x49_5⟩ _ ⟨g10_5, rfl, l10_5, m10_5⟩
  refine wpList_store_row rfl 27 (.tmp 10) (.tmp 49) rfl _ (elc e49_5) rfl rfl 27 _ m10_5 info26 rfl (elc_one _) ?_
  have n10_5 := setRow_heap _ _ _ (elc e49_5) _ _ m10_5
  replace hb5 := setRow_below hb5 l10_5 (elc e49_5)
  generalize hw5_1 : u5.setRow g10_5 (elc e49_5) = u5_1 at n10_5 hb5  ⊢
  clear hw5_1 m10_5
  have hO5 := (hO4).trans (hb5.mono (hO4).size)
  have m3_1__5 := block_below hb5 (lt_of_heap m3_1__4) m3_1__4
  have m4_1__5 := block_below hb5 (lt_of_heap m4_1__4) m4_1__4
  have m5_1__5 := block_below hb5 (lt_of_heap m5_1__4) m5_1__4
  have m6_1__5 := block_below hb5 (lt_of_heap m6_1__4) m6_1__4
  have n7_2__5 := block_below hb5 (lt_of_heap n7_2__4) n7_2__4
  have n8_3__5 := block_below hb5 (lt_of_heap n8_3__4) n8_3__4
  have n9_4__5 := block_below hb5 (lt_of_heap n9_4) n9_4
  have lwn10_5 := Nat.le_trans (hO4).size l10_5
  refine hK5 _ _ ?_
  clear hK5 K5
  obtain ⟨Z, hZ⟩ : ∃ Z, Z = (Z1) * (Z2) := ⟨_, rfl⟩
  rw [← hZ] at x49_5
  refine wp_seq_k fun K6 hK6 => ?_
  refine wp_plain_inv 4 (specs [El (Z), El (Z), El ((Z) + (Z)), Box u5_1.heap.size (elc zeroE) 27]) (specs_stb ⟨El.stb _, El.stb _, El.stb _, Box.stb _ _ _, trivial⟩) (by kernel_rfl) ?_ ?_
  · refine ⟨fun a w hB hfr hdep => Step.plain rfl (dLoadEl q49_5 x49_5 (block_below hB (lt_of_heap n10_5) n10_5) rfl (hfr 10 (by kernel_rfl)) (fun _ h => h)),
      fun a w hB hfr hdep => Step.plain rfl (dLoadEl q49_5 x49_5 (block_below hB (lt_of_heap n10_5) n10_5) rfl (hfr 10 (by kernel_rfl)) (fun _ h => h)),
      fun a w hB hfr hdep => Step.plain rfl (Does.call 56 #[(a.eval (.tmp 50)), (a.eval (.tmp 51))] (by kernel_rfl) (cAdd w w w (hdep 0 50 (by kernel_rfl)) (hdep 1 51 (by kernel_rfl)))),
      fun a w hB hfr hdep => Step.plain rfl (dAlloc27 hB.size rfl), trivial⟩
  intro u6 hb6
  simp only [List.take, List.drop, FinAll, Act.put, List.setIfInBounds_toArray, List.set_cons_succ, List.set_cons_zero]
  rintro v50_6 h50_6 v51_6 h51_6 _ ⟨e52_6, q52_6, rfl, x52_6⟩ _ ⟨g11_6, rfl, l11_6, m11_6⟩
  refine wpList_store_row rfl 27 (.tmp 11) (.tmp 52) rfl _ (elc e52_6) rfl rfl 27 _ m11_6 info26 rfl (elc_one _) ?_
  have n11_6 := setRow_heap _ _ _ (elc e52_6) _ _ m11_6
  replace hb6 := setRow_below hb6 l11_6 (elc e52_6)
  generalize hw6_1 : u6.setRow g11_6 (elc e52_6) = u6_1 at n11_6 hb6  ⊢
  clear hw6_1 m11_6
  have hO6 := (hO5).trans (hb6.mono (hO5).size)
  have m3_1__6 := block_below hb6 (lt_of_heap m3_1__5) m3_1__5
  have m4_1__6 := block_below hb6 (lt_of_heap m4_1__5) m4_1__5
  have m5_1__6 := block_below hb6 (lt_of_heap m5_1__5) m5_1__5
  have m6_1__6 := block_below hb6 (lt_of_heap m6_1__5) m6_1__5
  have n7_2__6 := block_below hb6 (lt_of_heap n7_2__5) n7_2__5
  have n8_3__6 := block_below hb6 (lt_of_heap n8_3__5) n8_3__5
  have n9_4__6 := block_below hb6 (lt_of_heap n9_4__5) n9_4__5
  have n10_5__6 := block_below hb6 (lt_of_heap n10_5) n10_5
  have lwn11_6 := Nat.le_trans (hO5).size l11_6
  refine hK6 _ _ ?_
  clear hK6 K6
  obtain ⟨D, hD⟩ : ∃ D, D = (Z) + (Z) := ⟨_, rfl⟩
  rw [← hD] at x52_6
  refine wp_seq_k fun K7 hK7 => ?_
  refine wp_region_inv2 (pi := 6) (pj := 7) (di := 12) (dj := 13) 8 (specs [El (B), El (A), El ((B) - (A)), El (D), El (C), El ((D) + (C)), Box u6_1.heap.size (elc zeroE) 27, Box u6_1.heap.size (elc zeroE) 27]) (by kernel_rfl) (specs_stb ⟨El.stb _, El.stb _, El.stb _, El.stb _, El.stb _, El.stb _, Box.stb _ _ _, Box.stb _ _ _, trivial⟩) (by kernel_rfl) ?_ (by decide) (by decide) (by decide) ?_ ?_ ?_ rfl rfl ?_
  · refine ⟨fun a w hB hfr hdep => Step.plain rfl (dLoadEl q37_3 x37_3 (block_below hB (lt_of_heap n8_3__6) n8_3__6) rfl (hfr 8 (by kernel_rfl)) (fun _ h => h)),
      fun a w hB hfr hdep => Step.plain rfl (dLoadEl q26_2 x26_2 (block_below hB (lt_of_heap n7_2__6) n7_2__6) rfl (hfr 7 (by kernel_rfl)) (fun _ h => h)),
      fun a w hB hfr hdep => Step.plain rfl (Does.call 58 #[(a.eval (.tmp 53)), (a.eval (.tmp 54))] (by kernel_rfl) (cSub w w w (hdep 0 53 (by kernel_rfl)) (hdep 1 54 (by kernel_rfl)))),
      fun a w hB hfr hdep => Step.plain rfl (dLoadEl q52_6 x52_6 (block_below hB (lt_of_heap n11_6) n11_6) rfl (hfr 11 (by kernel_rfl)) (fun _ h => h)),
      fun a w hB hfr hdep => Step.plain rfl (dLoadEl q44_4 x44_4 (block_below hB (lt_of_heap n9_4__6) n9_4__6) rfl (hfr 9 (by kernel_rfl)) (fun _ h => h)),
      fun a w hB hfr hdep => Step.plain rfl (Does.call 56 #[(a.eval (.tmp 56)), (a.eval (.tmp 57))] (by kernel_rfl) (cAdd w w w (hdep 3 56 (by kernel_rfl)) (hdep 4 57 (by kernel_rfl)))),
      fun a w hB hfr hdep => Step.plain rfl (dAlloc27 hB.size rfl),
      fun a w hB hfr hdep => Step.plain rfl (dAlloc27 hB.size rfl), trivial⟩
  · rintro i (rfl | rfl)
    · exact ⟨_, _, rfl, fun ρ w => al27 rfl⟩
    · exact ⟨_, _, rfl, fun ρ w => al27 rfl⟩
  · rintro i (rfl | rfl) v w g ⟨g1, h1, h2, h3⟩ h4
    · rw [h1] at h4; injection h4 with h5; injection h5 with h6; injection h6 with h7; exact h7 ▸ lt_of_heap h3
    · rw [h1] at h4; injection h4 with h5; injection h5 with h6; injection h6 with h7; exact h7 ▸ lt_of_heap h3
  · rintro i o (rfl | rfl) h
    · injection h with h; rw [← h]
    · injection h with h; rw [← h]
  intro u7 hb7
  simp only [List.take, List.drop, FinAll, Act.put, List.setIfInBounds_toArray, List.set_cons_succ, List.set_cons_zero]
  rintro v53_7 h53_7 v54_7 h54_7 _ ⟨e55_7, q55_7, rfl, x55_7⟩ v56_7 h56_7 v57_7 h57_7 _ ⟨e58_7, q58_7, rfl, x58_7⟩ _ ⟨g12_7, rfl, l12_7, m12_7⟩ _ ⟨g13_7, rfl, l13_7, m13_7⟩ nn7
  replace nn7 := nn7 _ _ rfl rfl
  refine wpList_store_row rfl 27 (.tmp 12) (.tmp 55) rfl _ (elc e55_7) rfl rfl 27 _ m12_7 info26 rfl (elc_one _) ?_
  have n12_7 := setRow_heap _ _ _ (elc e55_7) _ _ m12_7
  replace m13_7 := (setRow_other u7 g12_7 g13_7 (elc e55_7) (by first | exact nn7 | exact Ne.symm nn7 | omega)).trans m13_7
  replace hb7 := setRow_below hb7 l12_7 (elc e55_7)
  generalize hw7_1 : u7.setRow g12_7 (elc e55_7) = u7_1 at n12_7 hb7 m13_7 ⊢
  clear hw7_1 m12_7
  refine wpList_store_row rfl 27 (.tmp 13) (.tmp 58) rfl _ (elc e58_7) rfl rfl 27 _ m13_7 info26 rfl (elc_one _) ?_
  have n13_7 := setRow_heap _ _ _ (elc e58_7) _ _ m13_7
  replace n12_7 := (setRow_other u7_1 g13_7 g12_7 (elc e58_7) (by first | exact nn7 | exact Ne.symm nn7 | omega)).trans n12_7
  replace hb7 := setRow_below hb7 l13_7 (elc e58_7)
  generalize hw7_2 : u7_1.setRow g13_7 (elc e58_7) = u7_2 at n13_7 hb7 n12_7 ⊢
  clear hw7_2 m13_7
  have hO7 := (hO6).trans (hb7.mono (hO6).size)
  have m3_1__7 := block_below hb7 (lt_of_heap m3_1__6) m3_1__6
  have m4_1__7 := block_below hb7 (lt_of_heap m4_1__6) m4_1__6
  have m5_1__7 := block_below hb7 (lt_of_heap m5_1__6) m5_1__6
  have m6_1__7 := block_below hb7 (lt_of_heap m6_1__6) m6_1__6
  have n7_2__7 := block_below hb7 (lt_of_heap n7_2__6) n7_2__6
  have n8_3__7 := block_below hb7 (lt_of_heap n8_3__6) n8_3__6
  have n9_4__7 := block_below hb7 (lt_of_heap n9_4__6) n9_4__6
  have n10_5__7 := block_below hb7 (lt_of_heap n10_5__6) n10_5__6
  have n11_6__7 := block_below hb7 (lt_of_heap n11_6) n11_6
  have lwn12_7 := Nat.le_trans (hO6).size l12_7
  have lwn13_7 := Nat.le_trans (hO6).size l13_7
  refine hK7 _ _ ?_
  clear hK7 K7
  obtain ⟨E, hE⟩ : ∃ E, E = (B) - (A) := ⟨_, rfl⟩
  rw [← hE] at x55_7
  obtain ⟨G, hG⟩ : ∃ G, G = (D) + (C) := ⟨_, rfl⟩
  rw [← hG] at x58_7
  refine wp_seq_k fun K8 hK8 => ?_
  refine wp_region_inv2 (pi := 6) (pj := 7) (di := 14) (dj := 15) 8 (specs [El (B), El (A), El ((B) + (A)), El (D), El (C), El ((D) - (C)), Box u7_2.heap.size (elc zeroE) 27, Box u7_2.heap.size (elc zeroE) 27]) (by kernel_rfl) (specs_stb ⟨El.stb _, El.stb _, El.stb _, El.stb _, El.stb _, El.stb _, Box.stb _ _ _, Box.stb _ _ _, trivial⟩) (by kernel_rfl) ?_ (by decide) (by decide) (by decide) ?_ ?_ ?_ rfl rfl ?_
  · refine ⟨fun a w hB hfr hdep => Step.plain rfl (dLoadEl q37_3 x37_3 (block_below hB (lt_of_heap n8_3__7) n8_3__7) rfl (hfr 8 (by kernel_rfl)) (fun _ h => h)),
      fun a w hB hfr hdep => Step.plain rfl (dLoadEl q26_2 x26_2 (block_below hB (lt_of_heap n7_2__7) n7_2__7) rfl (hfr 7 (by kernel_rfl)) (fun _ h => h)),
      fun a w hB hfr hdep => Step.plain rfl (Does.call 56 #[(a.eval (.tmp 59)), (a.eval (.tmp 60))] (by kernel_rfl) (cAdd w w w (hdep 0 59 (by kernel_rfl)) (hdep 1 60 (by kernel_rfl)))),
      fun a w hB hfr hdep => Step.plain rfl (dLoadEl q52_6 x52_6 (block_below hB (lt_of_heap n11_6__7) n11_6__7) rfl (hfr 11 (by kernel_rfl)) (fun _ h => h)),
      fun a w hB hfr hdep => Step.plain rfl (dLoadEl q44_4 x44_4 (block_below hB (lt_of_heap n9_4__7) n9_4__7) rfl (hfr 9 (by kernel_rfl)) (fun _ h => h)),
      fun a w hB hfr hdep => Step.plain rfl (Does.call 58 #[(a.eval (.tmp 62)), (a.eval (.tmp 63))] (by kernel_rfl) (cSub w w w (hdep 3 62 (by kernel_rfl)) (hdep 4 63 (by kernel_rfl)))),
      fun a w hB hfr hdep => Step.plain rfl (dAlloc27 hB.size rfl),
      fun a w hB hfr hdep => Step.plain rfl (dAlloc27 hB.size rfl), trivial⟩
  · rintro i (rfl | rfl)
    · exact ⟨_, _, rfl, fun ρ w => al27 rfl⟩
    · exact ⟨_, _, rfl, fun ρ w => al27 rfl⟩
  · rintro i (rfl | rfl) v w g ⟨g1, h1, h2, h3⟩ h4
    · rw [h1] at h4; injection h4 with h5; injection h5 with h6; injection h6 with h7; exact h7 ▸ lt_of_heap h3
    · rw [h1] at h4; injection h4 with h5; injection h5 with h6; injection h6 with h7; exact h7 ▸ lt_of_heap h3
  · rintro i o (rfl | rfl) h
    · injection h with h; rw [← h]
    · injection h with h; rw [← h]
  intro u8 hb8
  simp only [List.take, List.drop, FinAll, Act.put, List.setIfInBounds_toArray, List.set_cons_succ, List.set_cons_zero]
  rintro v59_8 h59_8 v60_8 h60_8 _ ⟨e61_8, q61_8, rfl, x61_8⟩ v62_8 h62_8 v63_8 h63_8 _ ⟨e64_8, q64_8, rfl, x64_8⟩ _ ⟨g14_8, rfl, l14_8, m14_8⟩ _ ⟨g15_8, rfl, l15_8, m15_8⟩ nn8
  replace nn8 := nn8 _ _ rfl rfl
  refine wpList_store_row rfl 27 (.tmp 14) (.tmp 61) rfl _ (elc e61_8) rfl rfl 27 _ m14_8 info26 rfl (elc_one _) ?_
  have n14_8 := setRow_heap _ _ _ (elc e61_8) _ _ m14_8
  replace m15_8 := (setRow_other u8 g14_8 g15_8 (elc e61_8) (by first | exact nn8 | exact Ne.symm nn8 | omega)).trans m15_8
  replace hb8 := setRow_below hb8 l14_8 (elc e61_8)
  generalize hw8_1 : u8.setRow g14_8 (elc e61_8) = u8_1 at n14_8 hb8 m15_8 ⊢
  clear hw8_1 m14_8
  refine wpList_store_row rfl 27 (.tmp 15) (.tmp 64) rfl _ (elc e64_8) rfl rfl 27 _ m15_8 info26 rfl (elc_one _) ?_
  have n15_8 := setRow_heap _ _ _ (elc e64_8) _ _ m15_8
  replace n14_8 := (setRow_other u8_1 g15_8 g14_8 (elc e64_8) (by first | exact nn8 | exact Ne.symm nn8 | omega)).trans n14_8
  replace hb8 := setRow_below hb8 l15_8 (elc e64_8)
  generalize hw8_2 : u8_1.setRow g15_8 (elc e64_8) = u8_2 at n15_8 hb8 n14_8 ⊢
  clear hw8_2 m15_8
  have hO8 := (hO7).trans (hb8.mono (hO7).size)
  have m3_1__8 := block_below hb8 (lt_of_heap m3_1__7) m3_1__7
  have m4_1__8 := block_below hb8 (lt_of_heap m4_1__7) m4_1__7
  have m5_1__8 := block_below hb8 (lt_of_heap m5_1__7) m5_1__7
  have m6_1__8 := block_below hb8 (lt_of_heap m6_1__7) m6_1__7
  have n7_2__8 := block_below hb8 (lt_of_heap n7_2__7) n7_2__7
  have n8_3__8 := block_below hb8 (lt_of_heap n8_3__7) n8_3__7
  have n9_4__8 := block_below hb8 (lt_of_heap n9_4__7) n9_4__7
  have n10_5__8 := block_below hb8 (lt_of_heap n10_5__7) n10_5__7
  have n11_6__8 := block_below hb8 (lt_of_heap n11_6__7) n11_6__7
  have n12_7__8 := block_below hb8 (lt_of_heap n12_7) n12_7
  have n13_7__8 := block_below hb8 (lt_of_heap n13_7) n13_7
  have lwn14_8 := Nat.le_trans (hO7).size l14_8
  have lwn15_8 := Nat.le_trans (hO7).size l15_8
  refine hK8 _ _ ?_
  clear hK8 K8
  obtain ⟨H, hH⟩ : ∃ H, H = (B) + (A) := ⟨_, rfl⟩
  rw [← hH] at x61_8
  obtain ⟨F, hF⟩ : ∃ F, F = (D) - (C) := ⟨_, rfl⟩
  rw [← hF] at x64_8
  refine wp_seq_k fun K9 hK9 => ?_
  refine wp_region_inv 13 (specs [El (E), El (F), El ((E) * (F)), El (H), El (G), El ((H) * (G)), El (G), El (F), El ((G) * (F)), El (E), El (H), El ((E) * (H)), Pt4 ((E) * (F)) ((H) * (G)) ((G) * (F)) ((E) * (H))]) (by kernel_rfl) (specs_stb ⟨El.stb _, El.stb _, El.stb _, El.stb _, El.stb _, El.stb _, El.stb _, El.stb _, El.stb _, El.stb _, El.stb _, El.stb _, Pt4.stb _ _ _ _, trivial⟩) (by kernel_rfl) ?_ ?_
  · refine ⟨fun a w hB hfr hdep => Step.plain rfl (dLoadEl q55_7 x55_7 (block_below hB (lt_of_heap n12_7__8) n12_7__8) rfl (hfr 12 (by kernel_rfl)) (fun _ h => h)),
      fun a w hB hfr hdep => Step.plain rfl (dLoadEl q64_8 x64_8 (block_below hB (lt_of_heap n15_8) n15_8) rfl (hfr 15 (by kernel_rfl)) (fun _ h => h)),
      fun a w hB hfr hdep => Step.plain rfl (Does.call 39 #[(a.eval (.tmp 65)), (a.eval (.tmp 66))] (by kernel_rfl) (cMul w w w (hdep 0 65 (by kernel_rfl)) (hdep 1 66 (by kernel_rfl)))),
      fun a w hB hfr hdep => Step.plain rfl (dLoadEl q61_8 x61_8 (block_below hB (lt_of_heap n14_8) n14_8) rfl (hfr 14 (by kernel_rfl)) (fun _ h => h)),
      fun a w hB hfr hdep => Step.plain rfl (dLoadEl q58_7 x58_7 (block_below hB (lt_of_heap n13_7__8) n13_7__8) rfl (hfr 13 (by kernel_rfl)) (fun _ h => h)),
      fun a w hB hfr hdep => Step.plain rfl (Does.call 39 #[(a.eval (.tmp 68)), (a.eval (.tmp 69))] (by kernel_rfl) (cMul w w w (hdep 3 68 (by kernel_rfl)) (hdep 4 69 (by kernel_rfl)))),
      fun a w hB hfr hdep => Step.plain rfl (dLoadEl q58_7 x58_7 (block_below hB (lt_of_heap n13_7__8) n13_7__8) rfl (hfr 13 (by kernel_rfl)) (fun _ h => h)),
      fun a w hB hfr hdep => Step.plain rfl (dLoadEl q64_8 x64_8 (block_below hB (lt_of_heap n15_8) n15_8) rfl (hfr 15 (by kernel_rfl)) (fun _ h => h)),
      fun a w hB hfr hdep => Step.plain rfl (Does.call 39 #[(a.eval (.tmp 71)), (a.eval (.tmp 72))] (by kernel_rfl) (cMul w w w (hdep 6 71 (by kernel_rfl)) (hdep 7 72 (by kernel_rfl)))),
      fun a w hB hfr hdep => Step.plain rfl (dLoadEl q55_7 x55_7 (block_below hB (lt_of_heap n12_7__8) n12_7__8) rfl (hfr 12 (by kernel_rfl)) (fun _ h => h)),
      fun a w hB hfr hdep => Step.plain rfl (dLoadEl q61_8 x61_8 (block_below hB (lt_of_heap n14_8) n14_8) rfl (hfr 14 (by kernel_rfl)) (fun _ h => h)),
      fun a w hB hfr hdep => Step.plain rfl (Does.call 39 #[(a.eval (.tmp 74)), (a.eval (.tmp 75))] (by kernel_rfl) (cMul w w w (hdep 9 74 (by kernel_rfl)) (hdep 10 75 (by kernel_rfl)))),
      fun a w hB hfr hdep => Step.plain rfl (dBuild29 (w1 := w) (w2 := w) (w3 := w) (w4 := w) rfl (hdep 2 67 (by kernel_rfl)) (hdep 5 70 (by kernel_rfl)) (hdep 8 73 (by kernel_rfl)) (hdep 11 76 (by kernel_rfl))), trivial⟩
  intro u9 hb9
  simp only [List.take, List.drop, FinAll, Act.put, List.setIfInBounds_toArray, List.set_cons_succ, List.set_cons_zero]
  rintro v65_9 h65_9 v66_9 h66_9 v67_9 h67_9 v68_9 h68_9 v69_9 h69_9 v70_9 h70_9 v71_9 h71_9 v72_9 h72_9 v73_9 h73_9 v74_9 h74_9 v75_9 h75_9 v76_9 h76_9 _ ⟨e77_9, rfl, x77_9⟩
  have om6_1__8 := block_below hb9 (lt_of_heap m6_1__8) m6_1__8
  refine wpList_store_row rfl 29 (.tmp 6) (.tmp 77) rfl _ (e77_9) rfl rfl 29 _ om6_1__8 (by rw [(Pt4.cells x77_9).1]; exact info29) (by rw [(Pt4.cells x77_9).1]; rfl) (Pt4.cells x77_9).2 ?_
  have n6_9 := setRow_heap _ _ _ (e77_9) _ _ om6_1__8
  have hO9 := setRow_below (hO8.trans (hb9.mono (hO8).size)) lwm6_1 (e77_9)
  have hr := rep_add hr1 hr2 (A := A) (B := B) (C := C) (D := D) (E := E) (F := F) (G := G) (H := H) hA hB (by rw [hC]; grobner) (by rw [hD, hZ]; grobner) hE hF hG hH
  rw [Fin.mul_comm G H, Fin.mul_comm F G] at hr
  refine hK9 _ _ ?_
  clear hK9 K9
  refine wp_ret ?_
  refine bodyPost_ret (v := .agg (e77_9)) ?_ rfl ⟨_, rfl, hO9, ⟨_, rfl, _, _, _, _, x77_9, hr⟩⟩
  exact results_cell_row Tryd.results49 _ _ _ 29 _ (0, 0) _ rfl n6_9 Tryd.underlying29 rfl (by first | exact info26 | exact info29 | exact info35 | (rw [(Pt4.cells (by assumption)).1]; exact info29) | (rw [cellsP_size (by assumption)]; exact info29))
theorem cNeg {p : Pt} {v1 : Value} (w w0 : World) (h1 : PtV p v1 w0) : Ret 26 #[v1] w (PtV (p.neg)) := by
  obtain ⟨cs1, rfl, X1, Y1, Z1, T1, h41, hr1⟩ := h1
  unfold Ret
  have hO0 : Below w.heap.size w w := Below.refl _ _
  go_enter Tryd.func26, Tryd.ntmps26
  refine wp_seq_k fun K1 hK1 => ?_
  refine wp_plain_inv 2 (specs [Box w.heap.size (cs1) 29, Box w.heap.size (ptc zeroE zeroE zeroE zeroE) 29]) (specs_stb ⟨Box.stb _ _ _, Box.stb _ _ _, trivial⟩) (by kernel_rfl) ?_ ?_
  · refine ⟨fun a w hB hfr hdep => Step.plain rfl (dBox29 hB.size rfl (hfr 0 (by kernel_rfl)) h41),
      fun a w hB hfr hdep => Step.plain rfl (dAlloc29 hB.size rfl), trivial⟩
  intro u1 hb1
  simp only [List.take, List.drop, FinAll, Act.put, List.setIfInBounds_toArray, List.set_cons_succ, List.set_cons_zero]
  rintro _ ⟨g1_1, rfl, l1_1, m1_1⟩ _ ⟨g2_1, rfl, l2_1, m2_1⟩
  have hO1 := (hO0).trans (hb1.mono (hO0).size)
  have lwm1_1 := Nat.le_trans (hO0).size l1_1
  have lwm2_1 := Nat.le_trans (hO0).size l2_1
  refine hK1 _ _ ?_
  clear hK1 K1
  refine wp_seq_k fun K2 hK2 => ?_
  refine wp_region_inv 11 (specs [Is (.pointer (some ⟨g1_1, 0, none⟩)), El (X1), El (0 - (X1)), Is (.pointer (some ⟨g1_1, 5, none⟩)), El (Y1), Is (.pointer (some ⟨g1_1, 10, none⟩)), El (Z1), Is (.pointer (some ⟨g1_1, 15, none⟩)), El (T1), El (0 - (T1)), Pt4 (0 - (X1)) (Y1) (Z1) (0 - (T1))]) (by kernel_rfl) (specs_stb ⟨Is.stb _, El.stb _, El.stb _, Is.stb _, El.stb _, Is.stb _, El.stb _, Is.stb _, El.stb _, El.stb _, Pt4.stb _ _ _ _, trivial⟩) (by kernel_rfl) ?_ ?_
  · refine ⟨fun a w hB hfr hdep => Step.plain rfl (dFa29 g1_1 0 (by decide) rfl (hfr 1 (by kernel_rfl))),
      fun a w hB hfr hdep => Step.plain rfl (dLoadPart (k := 0) h41 (block_below hB (lt_of_heap m1_1) m1_1) (by decide) rfl (hdep 0 3 (by kernel_rfl)) (fun _ h => h)),
      fun a w hB hfr hdep => Step.plain rfl (Does.call 33 #[(a.eval (.tmp 4))] (by kernel_rfl) (cNegEl w w (hdep 1 4 (by kernel_rfl)))),
      fun a w hB hfr hdep => Step.plain rfl (dFa29 g1_1 1 (by decide) rfl (hfr 1 (by kernel_rfl))),
      fun a w hB hfr hdep => Step.plain rfl (dLoadPart (k := 1) h41 (block_below hB (lt_of_heap m1_1) m1_1) (by decide) rfl (hdep 3 6 (by kernel_rfl)) (fun _ h => h)),
      fun a w hB hfr hdep => Step.plain rfl (dFa29 g1_1 2 (by decide) rfl (hfr 1 (by kernel_rfl))),
      fun a w hB hfr hdep => Step.plain rfl (dLoadPart (k := 2) h41 (block_below hB (lt_of_heap m1_1) m1_1) (by decide) rfl (hdep 5 8 (by kernel_rfl)) (fun _ h => h)),
      fun a w hB hfr hdep => Step.plain rfl (dFa29 g1_1 3 (by decide) rfl (hfr 1 (by kernel_rfl))),
      fun a w hB hfr hdep => Step.plain rfl (dLoadPart (k := 3) h41 (block_below hB (lt_of_heap m1_1) m1_1) (by decide) rfl (hdep 7 10 (by kernel_rfl)) (fun _ h => h)),
      fun a w hB hfr hdep => Step.plain rfl (Does.call 33 #[(a.eval (.tmp 11))] (by kernel_rfl) (cNegEl w w (hdep 8 11 (by kernel_rfl)))),
      fun a w hB hfr hdep => Step.plain rfl (dBuild29 (w1 := w) (w2 := w) (w3 := w) (w4 := w) rfl (hdep 2 5 (by kernel_rfl)) (hdep 4 7 (by kernel_rfl)) (hdep 6 9 (by kernel_rfl)) (hdep 9 12 (by kernel_rfl))), trivial⟩
  intro u2 hb2
  simp only [List.take, List.drop, FinAll, Act.put, List.setIfInBounds_toArray, List.set_cons_succ, List.set_cons_zero]
  rintro _ rfl v4_2 h4_2 v5_2 h5_2 _ rfl v7_2 h7_2 _ rfl v9_2 h9_2 _ rfl v11_2 h11_2 v12_2 h12_2 _ ⟨e13_2, rfl, x13_2⟩
  have om2_1 := block_below hb2 (lt_of_heap m2_1) m2_1
  refine wpList_store_row rfl 29 (.tmp 2) (.tmp 13) rfl _ (e13_2) rfl rfl 29 _ om2_1 (by rw [(Pt4.cells x13_2).1]; exact info29) (by rw [(Pt4.cells x13_2).1]; rfl) (Pt4.cells x13_2).2 ?_
  have n2_2 := setRow_heap _ _ _ (e13_2) _ _ om2_1
  have hO2 := setRow_below (hO1.trans (hb2.mono (hO1).size)) lwm2_1 (e13_2)
  have hr := rep_neg hr1
  have e0 : ∀ z : Fe, 0 - z = -z := fun z => by grobner
  rw [← e0, ← e0] at hr
  refine hK2 _ _ ?_
  clear hK2 K2
  refine wp_ret ?_
  refine bodyPost_ret (v := .agg (e13_2)) ?_ rfl ⟨_, rfl, hO2, ⟨_, rfl, _, _, _, _, x13_2, hr⟩⟩
  exact results_cell_row Tryd.results26 _ _ _ 29 _ (0, 0) _ rfl n2_2 Tryd.underlying29 rfl (by first | exact info26 | exact info29 | exact info35 | (rw [(Pt4.cells (by assumption)).1]; exact info29) | (rw [cellsP_size (by assumption)]; exact info29))
end Go.Proofs.YtpfcboakafbnlaaDoor
