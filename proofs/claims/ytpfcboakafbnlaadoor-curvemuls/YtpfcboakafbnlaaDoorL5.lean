/-
  The walk of CurveMuls.
-/
import Derived.Test.YtpfcboakafbnlaaDoorQA
set_option linter.unusedVariables false
namespace Go.Proofs.YtpfcboakafbnlaaDoor
open Go.RowKit Go.Sort Go.BigFrame
set_option maxRecDepth 100000
set_option maxHeartbeats 2000000
theorem curveMuls7 {v1 v2 v3 : Value} {l1 l2 l3 : List Nat} (w : World) (hT : Tab w) (hv1 : Bts l1 v1 w) (hv2 : Bts l2 v2 w) (hv3 : Bts l3 v3 w) (hd1 : Dig l1) (hd2 : Dig l2) (hd3 : Dig l3) : Ret 7 #[v1, v2, v3] w (Is (.bool true)) := by
  have hla : ((l1).take 31).length ≤ 31 := by rw [List.length_take]; omega
  have hlb : ((l2).take 31).length ≤ 31 := by rw [List.length_take]; omega
  have hA := valD_lt (Dig.take hd1 31)
  have hB := valD_lt (Dig.take hd2 31)
  have hsum : valD (digs (max ((l1).take 31).length ((l2).take 31).length + 1) (valD ((l1).take 31) + valD ((l2).take 31))) = valD ((l1).take 31) + valD ((l2).take 31) := by
    refine valD_digs_lt ?_
    have h1 : 256 ^ ((l1).take 31).length ≤ 256 ^ (max ((l1).take 31).length ((l2).take 31).length) := Nat.pow_le_pow_right (by decide) (by omega)
    have h2 : 256 ^ ((l2).take 31).length ≤ 256 ^ (max ((l1).take 31).length ((l2).take 31).length) := Nat.pow_le_pow_right (by decide) (by omega)
    rw [Nat.pow_succ]
    omega
  have hs32 : valD (digs 32 (valD ((l1).take 31) + valD ((l2).take 31))) = valD ((l1).take 31) + valD ((l2).take 31) := by
    refine valD_digs_lt ?_
    have h1 : 256 ^ ((l1).take 31).length ≤ 256 ^ 31 := Nat.pow_le_pow_right (by decide) (by omega)
    have h2 : 256 ^ ((l2).take 31).length ≤ 256 ^ 31 := Nat.pow_le_pow_right (by decide) (by omega)
    have h3 : (256 : Nat) ^ 32 = 256 ^ 31 * 256 := Nat.pow_succ ..
    omega
  have hq1 : ∀ p : Pt, (p).nm (valD (digs 32 (valD ((l1).take 31) + valD ((l2).take 31)))) = ((p).nm (valD ((l1).take 31))).add ((p).nm (valD ((l2).take 31))) := fun p => by rw [hs32, Pt.nm_add]
  have hq2 : ∀ p : Pt, ((p).nm (valD ((l1).take 31))).nm (valD (((l2).take 31).take 8)) = ((p).nm (valD (((l2).take 31).take 8))).nm (valD ((l1).take 31)) := fun p => by rw [← Pt.nm_mul, ← Pt.nm_mul, Nat.mul_comm]
  clear hA hB hs32
  unfold Ret
  have hO0 : Below w.heap.size w w := Below.refl _ _
  go_enter Tryd.func7, Tryd.ntmps7
  refine wp_seq_k fun K1 hK1 => ?_
  refine wp_plain_inv 1 (specs [Is (.bool false)]) (specs_stb ⟨Is.stb _, trivial⟩) (by kernel_rfl) ?_ ?_
  · refine ⟨fun a w hB hfr hdep => Step.plain rfl (dAssign (R := Is (.bool false)) rfl rfl), trivial⟩
  intro u1 hb1
  simp only [List.take, List.drop, FinAll, Act.put, List.setIfInBounds_toArray, List.set_cons_succ, List.set_cons_zero]
  rintro _ rfl
  have hO1 := (hO0).trans (hb1.mono (hO0).size)
  have hT1 := Tab.below hT hb1
  refine hK1 _ _ ?_
  clear hK1 K1
  refine wp_seq_k fun K2 hK2 => ?_
  refine wp_plain_inv 2 (specs [Bts (l1), Bts ((l1).take 31)]) (specs_stb ⟨Bts.stb _, Bts.stb _, trivial⟩) (by kernel_rfl) ?_ ?_
  · refine ⟨fun a w hB hfr hdep => Step.plain rfl (dMove (R := Bts (l1)) rfl (use (hfr 0 (by kernel_rfl)) ((Bts.stb _) _ _ _ hB ((Bts.stb _) _ _ _ hb1 hv1)))),
      fun a w hB hfr hdep => Step.plain rfl (Does.call 10 #[(a.eval (.tmp 10)), .int .i64 31] (by kernel_rfl) (cFew 31 w (hdep 0 10 (by kernel_rfl)) (by decide))), trivial⟩
  intro u2 hb2
  simp only [List.take, List.drop, FinAll, Act.put, List.setIfInBounds_toArray, List.set_cons_succ, List.set_cons_zero]
  rintro v10_2 h10_2 v11_2 h11_2
  refine wpList_assign rfl rfl rfl ?_
  simp only [Act.put, Act.eval, Array.getD_eq_getD_getElem?, List.getElem?_toArray, List.getElem?_cons_succ, List.getElem?_cons_zero, Option.getD_some, List.setIfInBounds_toArray, List.set_cons_zero]
  have hO2 := (hO1).trans (hb2.mono (hO1).size)
  have hT2 := Tab.below hT1 hb2
  refine hK2 _ _ ?_
  clear hK2 K2
  refine wp_seq_k fun K3 hK3 => ?_
  refine wp_plain_inv 2 (specs [Bts (l2), Bts ((l2).take 31)]) (specs_stb ⟨Bts.stb _, Bts.stb _, trivial⟩) (by kernel_rfl) ?_ ?_
  · refine ⟨fun a w hB hfr hdep => Step.plain rfl (dMove (R := Bts (l2)) rfl (use (hfr 1 (by kernel_rfl)) ((Bts.stb _) _ _ _ hB ((Bts.stb _) _ _ _ hb2 ((Bts.stb _) _ _ _ hb1 hv2))))),
      fun a w hB hfr hdep => Step.plain rfl (Does.call 10 #[(a.eval (.tmp 12)), .int .i64 31] (by kernel_rfl) (cFew 31 w (hdep 0 12 (by kernel_rfl)) (by decide))), trivial⟩
  intro u3 hb3
  simp only [List.take, List.drop, FinAll, Act.put, List.setIfInBounds_toArray, List.set_cons_succ, List.set_cons_zero]
  rintro v12_3 h12_3 v13_3 h13_3
  refine wpList_assign rfl rfl rfl ?_
  simp only [Act.put, Act.eval, Array.getD_eq_getD_getElem?, List.getElem?_toArray, List.getElem?_cons_succ, List.getElem?_cons_zero, Option.getD_some, List.setIfInBounds_toArray, List.set_cons_succ, List.set_cons_zero]
  have hO3 := (hO2).trans (hb3.mono (hO2).size)
  have hT3 := Tab.below hT2 hb3
  refine hK3 _ _ ?_
  clear hK3 K3
  refine wp_seq_k fun K4 hK4 => ?_
  refine wp_plain_inv 5 (specs [PtV (bp), Bts (l3), Bts ((l3).take 32), PtV ((bp).nm (valD ((l3).take 32))), Box u3.heap.size (ptc zeroE zeroE zeroE zeroE) 29]) (specs_stb ⟨PtV.stb _, Bts.stb _, Bts.stb _, PtV.stb _, Box.stb _ _ _, trivial⟩) (by kernel_rfl) ?_ ?_
  · refine ⟨fun a w hB hfr hdep => Step.plain rfl (Does.call 16 #[] (by kernel_rfl) (cBase w (Tab.below hT3 hB))),
      fun a w hB hfr hdep => Step.plain rfl (dMove (R := Bts (l3)) rfl (use (hfr 2 (by kernel_rfl)) ((Bts.stb _) _ _ _ hB ((Bts.stb _) _ _ _ hb3 ((Bts.stb _) _ _ _ hb2 ((Bts.stb _) _ _ _ hb1 hv3)))))),
      fun a w hB hfr hdep => Step.plain rfl (Does.call 10 #[(a.eval (.tmp 15)), .int .i64 32] (by kernel_rfl) (cFew 32 w (hdep 1 15 (by kernel_rfl)) (by decide))),
      fun a w hB hfr hdep => Step.plain rfl (Does.call 17 #[(a.eval (.tmp 14)), (a.eval (.tmp 16))] (by kernel_rfl) (cMulP w w (Tab.below hT3 hB) (hdep 0 14 (by kernel_rfl)) (hdep 2 16 (by kernel_rfl)) (Dig.take hd3 _) (by rw [List.length_take]; omega))),
      fun a w hB hfr hdep => Step.plain rfl (dAlloc29 hB.size rfl), trivial⟩
  intro u4 hb4
  simp only [List.take, List.drop, FinAll, Act.put, List.setIfInBounds_toArray, List.set_cons_succ, List.set_cons_zero]
  rintro v14_4 h14_4 v15_4 h15_4 v16_4 h16_4 _ ⟨e17_4, rfl, x17_4⟩ _ ⟨g7_4, rfl, l7_4, m7_4⟩
  refine wpList_store_row rfl 29 (.tmp 7) (.tmp 17) rfl _ (e17_4) rfl rfl 29 _ m7_4 (by rw [cellsP_size x17_4]; exact info29) (by rw [cellsP_size x17_4]; rfl) (cellsP_one x17_4) ?_
  have n7_4 := setRow_heap _ _ _ (e17_4) _ _ m7_4
  replace hb4 := setRow_below hb4 l7_4 (e17_4)
  generalize hw4_1 : u4.setRow g7_4 (e17_4) = u4_1 at n7_4 hb4  ⊢
  clear hw4_1 m7_4
  have hO4 := (hO3).trans (hb4.mono (hO3).size)
  have lwn7_4 := Nat.le_trans (hO3).size l7_4
  have hT4 := Tab.below hT3 hb4
  refine hK4 _ _ ?_
  clear hK4 K4
  obtain ⟨p, hp⟩ : ∃ p, p = (bp).nm (valD ((l3).take 32)) := ⟨_, rfl⟩
  rw [← hp] at x17_4
  refine wp_seq_k fun K5 hK5 => ?_
  refine wp_plain_inv 7 (specs [Bts ((l1).take 31), DRow ((l1).take 31), Bts ((l2).take 31), DRow ((l2).take 31), DRow (digs (max ((l1).take 31).length ((l2).take 31).length + 1) (valD ((l1).take 31) + valD ((l2).take 31))), OwnC u4_1.heap.size (digs 32 (valD ((l1).take 31) + valD ((l2).take 31))), OwnC u4_1.heap.size (digs 32 (valD ((l1).take 31) + valD ((l2).take 31)))]) (specs_stb ⟨Bts.stb _, DRow.stb _, Bts.stb _, DRow.stb _, DRow.stb _, OwnC.stb _ _, OwnC.stb _ _, trivial⟩) (by kernel_rfl) ?_ ?_
  · refine ⟨fun a w hB hfr hdep => Step.plain rfl (dMove (R := Bts ((l1).take 31)) rfl (use (hfr 0 (by kernel_rfl)) ((Bts.stb _) _ _ _ hB ((Bts.stb _) _ _ _ hb4 ((Bts.stb _) _ _ _ hb3 h11_2))))),
      fun a w hB hfr hdep => Step.plain rfl (Does.call 28 #[(a.eval (.tmp 18))] (by kernel_rfl) (rDigits w (hdep 0 18 (by kernel_rfl)) (Dig.take hd1 _) (by first | (rw [List.length_take]; omega) | omega))),
      fun a w hB hfr hdep => Step.plain rfl (dMove (R := Bts ((l2).take 31)) rfl (use (hfr 1 (by kernel_rfl)) ((Bts.stb _) _ _ _ hB ((Bts.stb _) _ _ _ hb4 h13_3)))),
      fun a w hB hfr hdep => Step.plain rfl (Does.call 28 #[(a.eval (.tmp 20))] (by kernel_rfl) (rDigits w (hdep 2 20 (by kernel_rfl)) (Dig.take hd2 _) (by first | (rw [List.length_take]; omega) | omega))),
      fun a w hB hfr hdep => Step.plain rfl (Does.call 27 #[(a.eval (.tmp 19)), (a.eval (.tmp 21))] (by kernel_rfl) (rPlus w (hdep 1 19 (by kernel_rfl)) (hdep 3 21 (by kernel_rfl)) (by rw [List.length_take]; omega) (by rw [List.length_take]; omega) (Dig.take hd1 _) (Dig.take hd2 _))),
      fun a w hB hfr hdep => Step.plain rfl (Does.call 21 #[(a.eval (.tmp 22))] (by kernel_rfl) (ownCLo hB.size (rBytes hsum w (hdep 4 22 (by kernel_rfl)) (by rw [digs_len]; have := hla; have := hlb; omega) (digs_dig _ _)))),
      fun a w hB hfr hdep => Step.plain rfl (dAssign (R := OwnC u4_1.heap.size (digs 32 (valD ((l1).take 31) + valD ((l2).take 31)))) rfl (hdep 5 23 (by kernel_rfl))), trivial⟩
  intro u5 hb5
  simp only [List.take, List.drop, FinAll, Act.put, List.setIfInBounds_toArray, List.set_cons_succ, List.set_cons_zero]
  rintro v18_5 h18_5 v19_5 h19_5 v20_5 h20_5 v21_5 h21_5 v22_5 h22_5 v23_5 h23_5 v8_5 h8_5
  have hO5 := (hO4).trans (hb5.mono (hO4).size)
  have n7_4__5 := block_below hb5 (lt_of_heap n7_4) n7_4
  have hT5 := Tab.below hT4 hb5
  refine hK5 _ _ ?_
  clear hK5 K5
  refine wp_seq_k fun K6 hK6 => ?_
  refine wp_region_inv 8 (specs [PtV (p), Bts ((l1).take 31), PtV ((p).nm (valD ((l1).take 31))), PtV (p), Bts ((l2).take 31), PtV ((p).nm (valD ((l2).take 31))), PtV (((p).nm (valD ((l1).take 31))).add ((p).nm (valD ((l2).take 31)))), Box u5.heap.size (ptc zeroE zeroE zeroE zeroE) 29]) (by kernel_rfl) (specs_stb ⟨PtV.stb _, Bts.stb _, PtV.stb _, PtV.stb _, Bts.stb _, PtV.stb _, PtV.stb _, Box.stb _ _ _, trivial⟩) (by kernel_rfl) ?_ ?_
  · refine ⟨fun a w hB hfr hdep => Step.plain rfl (dLoadPt x17_4 (block_below hB (lt_of_heap n7_4__5) n7_4__5) rfl (hfr 7 (by kernel_rfl)) (fun _ h => h)),
      fun a w hB hfr hdep => Step.plain rfl (dMove (R := Bts ((l1).take 31)) rfl (use (hfr 0 (by kernel_rfl)) ((Bts.stb _) _ _ _ hB ((Bts.stb _) _ _ _ hb5 ((Bts.stb _) _ _ _ hb4 ((Bts.stb _) _ _ _ hb3 h11_2)))))),
      fun a w hB hfr hdep => Step.plain rfl (Does.call 17 #[(a.eval (.tmp 24)), (a.eval (.tmp 25))] (by kernel_rfl) (cMulP w w (Tab.below hT5 hB) (hdep 0 24 (by kernel_rfl)) (hdep 1 25 (by kernel_rfl)) (Dig.take hd1 _) (by rw [List.length_take]; omega))),
      fun a w hB hfr hdep => Step.plain rfl (dLoadPt x17_4 (block_below hB (lt_of_heap n7_4__5) n7_4__5) rfl (hfr 7 (by kernel_rfl)) (fun _ h => h)),
      fun a w hB hfr hdep => Step.plain rfl (dMove (R := Bts ((l2).take 31)) rfl (use (hfr 1 (by kernel_rfl)) ((Bts.stb _) _ _ _ hB ((Bts.stb _) _ _ _ hb5 ((Bts.stb _) _ _ _ hb4 h13_3))))),
      fun a w hB hfr hdep => Step.plain rfl (Does.call 17 #[(a.eval (.tmp 27)), (a.eval (.tmp 28))] (by kernel_rfl) (cMulP w w (Tab.below hT5 hB) (hdep 3 27 (by kernel_rfl)) (hdep 4 28 (by kernel_rfl)) (Dig.take hd2 _) (by rw [List.length_take]; omega))),
      fun a w hB hfr hdep => Step.plain rfl (Does.call 19 #[(a.eval (.tmp 26)), (a.eval (.tmp 29))] (by kernel_rfl) (cPAdd w w w (Tab.below hT5 hB) (hdep 2 26 (by kernel_rfl)) (hdep 5 29 (by kernel_rfl)))),
      fun a w hB hfr hdep => Step.plain rfl (dAlloc29 hB.size rfl), trivial⟩
  intro u6 hb6
  simp only [List.take, List.drop, FinAll, Act.put, List.setIfInBounds_toArray, List.set_cons_succ, List.set_cons_zero]
  rintro v24_6 h24_6 v25_6 h25_6 v26_6 h26_6 v27_6 h27_6 v28_6 h28_6 v29_6 h29_6 _ ⟨e30_6, rfl, x30_6⟩ _ ⟨g9_6, rfl, l9_6, m9_6⟩
  refine wpList_store_row rfl 29 (.tmp 9) (.tmp 30) rfl _ (e30_6) rfl rfl 29 _ m9_6 (by rw [cellsP_size x30_6]; exact info29) (by rw [cellsP_size x30_6]; rfl) (cellsP_one x30_6) ?_
  have n9_6 := setRow_heap _ _ _ (e30_6) _ _ m9_6
  replace hb6 := setRow_below hb6 l9_6 (e30_6)
  generalize hw6_1 : u6.setRow g9_6 (e30_6) = u6_1 at n9_6 hb6  ⊢
  clear hw6_1 m9_6
  have hO6 := (hO5).trans (hb6.mono (hO5).size)
  have n7_4__6 := block_below hb6 (lt_of_heap n7_4__5) n7_4__5
  have lwn9_6 := Nat.le_trans (hO5).size l9_6
  have hT6 := Tab.below hT5 hb6
  refine hK6 _ _ ?_
  clear hK6 K6
  refine wp_seq_k fun K7 hK7 => ?_
  refine wp_region_inv 24 (specs [PtV (p), OwnC u4_1.heap.size (digs 32 (valD ((l1).take 31) + valD ((l2).take 31))), PtV ((p).nm (valD (digs 32 (valD ((l1).take 31) + valD ((l2).take 31))))), PtV (((p).nm (valD ((l1).take 31))).add ((p).nm (valD ((l2).take 31)))), Is (.bool true), Is (.bool true), PtV (p), Bts ((l1).take 31), PtV ((p).nm (valD ((l1).take 31))), Bts ((l2).take 31), Bts (((l2).take 31).take 8), PtV (((p).nm (valD ((l1).take 31))).nm (valD (((l2).take 31).take 8))), PtV (p), Bts ((l2).take 31), Bts (((l2).take 31).take 8), PtV ((p).nm (valD (((l2).take 31).take 8))), Bts ((l1).take 31), PtV (((p).nm (valD (((l2).take 31).take 8))).nm (valD ((l1).take 31))), Is (.bool true), Is (.bool true), Is (.bool true), Is (.bool true), Is (.bool true), Is (.bool true)]) (by kernel_rfl) (specs_stb ⟨PtV.stb _, OwnC.stb _ _, PtV.stb _, PtV.stb _, Is.stb _, Is.stb _, PtV.stb _, Bts.stb _, PtV.stb _, Bts.stb _, Bts.stb _, PtV.stb _, PtV.stb _, Bts.stb _, Bts.stb _, PtV.stb _, Bts.stb _, PtV.stb _, Is.stb _, Is.stb _, Is.stb _, Is.stb _, Is.stb _, Is.stb _, trivial⟩) (by kernel_rfl) ?_ ?_
  · refine ⟨fun a w hB hfr hdep => Step.plain rfl (dLoadPt x17_4 (block_below hB (lt_of_heap n7_4__6) n7_4__6) rfl (hfr 7 (by kernel_rfl)) (fun _ h => h)),
      fun a w hB hfr hdep => Step.plain rfl (dMove (R := OwnC u4_1.heap.size (digs 32 (valD ((l1).take 31) + valD ((l2).take 31)))) rfl (use (hfr 8 (by kernel_rfl)) ((OwnC.stb _ _) _ _ _ hB ((OwnC.stb _ _) _ _ _ hb6 h8_5)))),
      fun a w hB hfr hdep => Step.plain rfl (Does.call 17 #[(a.eval (.tmp 31)), (a.eval (.tmp 32))] (by kernel_rfl) (cMulP w w (Tab.below hT6 hB) (hdep 0 31 (by kernel_rfl)) (OwnC.bts (hdep 1 32 (by kernel_rfl))) (digs_dig _ _) (by first | decide | (rw [digs_len]; omega)))),
      fun a w hB hfr hdep => Step.plain rfl (dLoadPt x30_6 (block_below hB (lt_of_heap n9_6) n9_6) rfl (hfr 9 (by kernel_rfl)) (fun _ h => h)),
      fun a w hB hfr hdep => Step.plain rfl (Does.call 24 #[(a.eval (.tmp 33)), (a.eval (.tmp 34))] (by kernel_rfl) (cPEqT (hq1 p) w w w (hdep 2 33 (by kernel_rfl)) (hdep 3 34 (by kernel_rfl)))),
      fun a w hB hfr hdep => Step.plain rfl (dMove (R := Is (.bool true)) rfl (hdep 4 35 (by kernel_rfl))),
      fun a w hB hfr hdep => Step.yes 5 36 true rfl rfl (hdep 5 36 (by kernel_rfl)) (dLoadPt x17_4 (block_below hB (lt_of_heap n7_4__6) n7_4__6) rfl (hfr 7 (by kernel_rfl)) (fun _ h => h)),
      fun a w hB hfr hdep => Step.yes 5 36 true rfl rfl (hdep 5 36 (by kernel_rfl)) (dMove (R := Bts ((l1).take 31)) rfl (use (hfr 0 (by kernel_rfl)) ((Bts.stb _) _ _ _ hB ((Bts.stb _) _ _ _ hb6 ((Bts.stb _) _ _ _ hb5 ((Bts.stb _) _ _ _ hb4 ((Bts.stb _) _ _ _ hb3 h11_2))))))),
      fun a w hB hfr hdep => Step.yes 5 36 true rfl rfl (hdep 5 36 (by kernel_rfl)) (Does.call 17 #[(a.eval (.tmp 37)), (a.eval (.tmp 38))] (by kernel_rfl) (cMulP w w (Tab.below hT6 hB) (hdep 6 37 (by kernel_rfl)) (hdep 7 38 (by kernel_rfl)) (Dig.take hd1 _) (by rw [List.length_take]; omega))),
      fun a w hB hfr hdep => Step.yes 5 36 true rfl rfl (hdep 5 36 (by kernel_rfl)) (dMove (R := Bts ((l2).take 31)) rfl (use (hfr 1 (by kernel_rfl)) ((Bts.stb _) _ _ _ hB ((Bts.stb _) _ _ _ hb6 ((Bts.stb _) _ _ _ hb5 ((Bts.stb _) _ _ _ hb4 h13_3)))))),
      fun a w hB hfr hdep => Step.yes 5 36 true rfl rfl (hdep 5 36 (by kernel_rfl)) (Does.call 10 #[(a.eval (.tmp 40)), .int .i64 8] (by kernel_rfl) (cFew 8 w (hdep 9 40 (by kernel_rfl)) (by decide))),
      fun a w hB hfr hdep => Step.yes 5 36 true rfl rfl (hdep 5 36 (by kernel_rfl)) (Does.call 17 #[(a.eval (.tmp 39)), (a.eval (.tmp 41))] (by kernel_rfl) (cMulP w w (Tab.below hT6 hB) (hdep 8 39 (by kernel_rfl)) (hdep 10 41 (by kernel_rfl)) (Dig.take (Dig.take hd2 _) _) (by rw [List.length_take]; omega))),
      fun a w hB hfr hdep => Step.yes 5 36 true rfl rfl (hdep 5 36 (by kernel_rfl)) (dLoadPt x17_4 (block_below hB (lt_of_heap n7_4__6) n7_4__6) rfl (hfr 7 (by kernel_rfl)) (fun _ h => h)),
      fun a w hB hfr hdep => Step.yes 5 36 true rfl rfl (hdep 5 36 (by kernel_rfl)) (dMove (R := Bts ((l2).take 31)) rfl (use (hfr 1 (by kernel_rfl)) ((Bts.stb _) _ _ _ hB ((Bts.stb _) _ _ _ hb6 ((Bts.stb _) _ _ _ hb5 ((Bts.stb _) _ _ _ hb4 h13_3)))))),
      fun a w hB hfr hdep => Step.yes 5 36 true rfl rfl (hdep 5 36 (by kernel_rfl)) (Does.call 10 #[(a.eval (.tmp 44)), .int .i64 8] (by kernel_rfl) (cFew 8 w (hdep 13 44 (by kernel_rfl)) (by decide))),
      fun a w hB hfr hdep => Step.yes 5 36 true rfl rfl (hdep 5 36 (by kernel_rfl)) (Does.call 17 #[(a.eval (.tmp 43)), (a.eval (.tmp 45))] (by kernel_rfl) (cMulP w w (Tab.below hT6 hB) (hdep 12 43 (by kernel_rfl)) (hdep 14 45 (by kernel_rfl)) (Dig.take (Dig.take hd2 _) _) (by rw [List.length_take]; omega))),
      fun a w hB hfr hdep => Step.yes 5 36 true rfl rfl (hdep 5 36 (by kernel_rfl)) (dMove (R := Bts ((l1).take 31)) rfl (use (hfr 0 (by kernel_rfl)) ((Bts.stb _) _ _ _ hB ((Bts.stb _) _ _ _ hb6 ((Bts.stb _) _ _ _ hb5 ((Bts.stb _) _ _ _ hb4 ((Bts.stb _) _ _ _ hb3 h11_2))))))),
      fun a w hB hfr hdep => Step.yes 5 36 true rfl rfl (hdep 5 36 (by kernel_rfl)) (Does.call 17 #[(a.eval (.tmp 46)), (a.eval (.tmp 47))] (by kernel_rfl) (cMulP w w (Tab.below hT6 hB) (hdep 15 46 (by kernel_rfl)) (hdep 16 47 (by kernel_rfl)) (Dig.take hd1 _) (by rw [List.length_take]; omega))),
      fun a w hB hfr hdep => Step.yes 5 36 true rfl rfl (hdep 5 36 (by kernel_rfl)) (Does.call 24 #[(a.eval (.tmp 42)), (a.eval (.tmp 48))] (by kernel_rfl) (cPEqT (hq2 p) w w w (hdep 11 42 (by kernel_rfl)) (hdep 17 48 (by kernel_rfl)))),
      fun a w hB hfr hdep => Step.plain rfl (dPickT rfl (hdep 5 36 (by kernel_rfl)) (hdep 18 49 (by kernel_rfl))),
      fun a w hB hfr hdep => Step.plain rfl (dMove (R := Is (.bool true)) rfl (hdep 19 50 (by kernel_rfl))),
      fun a w hB hfr hdep => Step.yes 20 51 true rfl rfl (hdep 20 51 (by kernel_rfl)) (Does.call 13 #[] (by kernel_rfl) (cLives w (Tab.below hT6 hB))),
      fun a w hB hfr hdep => Step.plain rfl (dPickT rfl (hdep 20 51 (by kernel_rfl)) (hdep 21 52 (by kernel_rfl))),
      fun a w hB hfr hdep => Step.plain rfl (dAssign (R := Is (.bool true)) rfl (hdep 22 53 (by kernel_rfl))), trivial⟩
  intro u7 hb7
  simp only [List.take, List.drop, FinAll, Act.put, List.setIfInBounds_toArray, List.set_cons_succ, List.set_cons_zero]
  rintro v31_7 h31_7 v32_7 h32_7 v33_7 h33_7 v34_7 h34_7 _ rfl _ rfl v37_7 h37_7 v38_7 h38_7 v39_7 h39_7 v40_7 h40_7 v41_7 h41_7 v42_7 h42_7 v43_7 h43_7 v44_7 h44_7 v45_7 h45_7 v46_7 h46_7 v47_7 h47_7 v48_7 h48_7 _ rfl _ rfl _ rfl _ rfl _ rfl _ rfl
  have hO7 := (hO6).trans (hb7.mono (hO6).size)
  have n7_4__7 := block_below hb7 (lt_of_heap n7_4__6) n7_4__6
  have n9_6__7 := block_below hb7 (lt_of_heap n9_6) n9_6
  have hT7 := Tab.below hT6 hb7
  refine hK7 _ _ ?_
  clear hK7 K7
  refine wp_ret ?_
  refine bodyPost_ret (results_tmp rfl _ _ _) rfl ?_
  exact ⟨_, rfl, hO7, rfl⟩
end Go.Proofs.YtpfcboakafbnlaaDoor
