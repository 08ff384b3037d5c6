/-
  The walk of SignVerifies.
-/
import Derived.Test.YtabgihjffjlfiaaGreatDoorC11
set_option linter.unusedVariables false
namespace Go.Proofs.YtabgihjffjlfiaaGreatDoor
open Go.RowKit Go.Sort Go.BigFrame EN
set_option maxRecDepth 100000
set_option maxHeartbeats 2000000
theorem signVerifies0 {v1 v2 v3 : Value} {l1 l2 l3 : List Nat} (w : World) (hT : TabV w) (hv1 : Bts l1 v1 w) (hv2 : Bts l2 v2 w) (hv3 : Bts l3 v3 w) (hd1 : Dig l1) (hd2 : Dig l2) (hd3 : Dig l3) (hV : ∀ w a b c, TabV w → Bts ((l1).take 34) a w → Bts ((l2).take 100) b w → Bts ((l3).take 70) c w → Ret 11 #[a, b, c] w (Is (.int .i64 0))) (hR : ∀ w a b c, Bts ((l1).take 34) a w → Bts ((l2).take 100) b w → Bts ((l3).take 70) c w → Ret 10 #[a, b, c] w (Is (.int .i64 0))) : Ret 4 #[v1, v2, v3] w (Is (.bool true)) := by
 unfold Ret
 have hO0 : Below w.heap.size w w := Below.refl _ _
 go_enter Tryz.func4, Tryz.ntmps4
 refine wp_seq_k fun K1 hK1 => ?_
 refine wp_plain_inv 1 (specs [Is (.bool false)]) (specs_stb ⟨Is.stb _, trivial⟩) (by kernel_rfl) ?_ ?_
 ·refine ⟨fun a w hB hfr hdep => Step.plain rfl (dAssign (R := Is (.bool false)) rfl rfl), trivial⟩
 intro u1 hb1
 simp only [List.take, List.drop, FinAll, Act.put, lA, lS, lZ]
 rintro _ rfl
 have hO1 := (hO0).trans (hb1.mono (hO0).size)
 have hT1 := TabV.below hT hb1
 refine hK1 _ _ ?_
 clear hK1 K1
 refine wp_seq_k fun K2 hK2 => ?_
 refine wp_plain_inv 2 (specs [Bts (l1), Bts ((l1).take 34)]) (specs_stb ⟨Bts.stb _, Bts.stb _, trivial⟩) (by kernel_rfl) ?_ ?_
 ·refine ⟨fun a w hB hfr hdep => Step.plain rfl (dMove (R := Bts (l1)) rfl (use (hfr 0 (by kernel_rfl)) ((Bts.stb _) _ _ _ hB ((Bts.stb _) _ _ _ hb1 hv1)))),
   fun a w hB hfr hdep => Step.plain rfl (Does.call 7 #[(a.eval (.tmp 9)), .int .i64 34] (by kernel_rfl) (cFew 34 w (hdep 0 9 (by kernel_rfl)) (by decide))), trivial⟩
 intro u2 hb2
 simp only [List.take, List.drop, FinAll, Act.put, lA, lS, lZ]
 rintro v9_2 h9_2 v10_2 h10_2
 refine wpList_assign rfl rfl rfl ?_
 simp only [Act.put, Act.eval, Array.getD_eq_getD_getElem?, List.getElem?_toArray, List.getElem?_cons_succ, List.getElem?_cons_zero, Option.getD_some, lA, lZ]
 have hO2 := (hO1).trans (hb2.mono (hO1).size)
 have hT2 := TabV.below hT1 hb2
 refine hK2 _ _ ?_
 clear hK2 K2
 refine wp_seq_k fun K3 hK3 => ?_
 refine wp_plain_inv 2 (specs [Bts (l2), Bts ((l2).take 100)]) (specs_stb ⟨Bts.stb _, Bts.stb _, trivial⟩) (by kernel_rfl) ?_ ?_
 ·refine ⟨fun a w hB hfr hdep => Step.plain rfl (dMove (R := Bts (l2)) rfl (use (hfr 1 (by kernel_rfl)) ((Bts.stb _) _ _ _ hB ((Bts.stb _) _ _ _ hb2 ((Bts.stb _) _ _ _ hb1 hv2))))),
   fun a w hB hfr hdep => Step.plain rfl (Does.call 7 #[(a.eval (.tmp 11)), .int .i64 100] (by kernel_rfl) (cFew 100 w (hdep 0 11 (by kernel_rfl)) (by decide))), trivial⟩
 intro u3 hb3
 simp only [List.take, List.drop, FinAll, Act.put, lA, lS, lZ]
 rintro v11_3 h11_3 v12_3 h12_3
 refine wpList_assign rfl rfl rfl ?_
 simp only [Act.put, Act.eval, Array.getD_eq_getD_getElem?, List.getElem?_toArray, List.getElem?_cons_succ, List.getElem?_cons_zero, Option.getD_some, lA, lS, lZ]
 have hO3 := (hO2).trans (hb3.mono (hO2).size)
 have hT3 := TabV.below hT2 hb3
 refine hK3 _ _ ?_
 clear hK3 K3
 refine wp_seq_k fun K4 hK4 => ?_
 refine wp_plain_inv 2 (specs [Bts (l3), Bts ((l3).take 70)]) (specs_stb ⟨Bts.stb _, Bts.stb _, trivial⟩) (by kernel_rfl) ?_ ?_
 ·refine ⟨fun a w hB hfr hdep => Step.plain rfl (dMove (R := Bts (l3)) rfl (use (hfr 2 (by kernel_rfl)) ((Bts.stb _) _ _ _ hB ((Bts.stb _) _ _ _ hb3 ((Bts.stb _) _ _ _ hb2 ((Bts.stb _) _ _ _ hb1 hv3)))))),
   fun a w hB hfr hdep => Step.plain rfl (Does.call 7 #[(a.eval (.tmp 13)), .int .i64 70] (by kernel_rfl) (cFew 70 w (hdep 0 13 (by kernel_rfl)) (by decide))), trivial⟩
 intro u4 hb4
 simp only [List.take, List.drop, FinAll, Act.put, lA, lS, lZ]
 rintro v13_4 h13_4 v14_4 h14_4
 refine wpList_assign rfl rfl rfl ?_
 simp only [Act.put, Act.eval, Array.getD_eq_getD_getElem?, List.getElem?_toArray, List.getElem?_cons_succ, List.getElem?_cons_zero, Option.getD_some, lA, lS, lZ]
 have hO4 := (hO3).trans (hb4.mono (hO3).size)
 have hT4 := TabV.below hT3 hb4
 refine hK4 _ _ ?_
 clear hK4 K4
 refine wp_seq_k fun K5 hK5 => ?_
 refine wp_plain_inv 2 (specs [W3 u4.heap.size, W3 u4.heap.size]) (specs_stb ⟨W3.stb _, W3.stb _, trivial⟩) (by kernel_rfl) ?_ ?_
 ·refine ⟨fun a w hB hfr hdep => Step.plain rfl (dW3 hB.size rfl),
   fun a w hB hfr hdep => Step.plain rfl (dAssign (R := W3 u4.heap.size) rfl (hdep 0 15 (by kernel_rfl))), trivial⟩
 intro u5 hb5
 simp only [List.take, List.drop, FinAll, Act.put, lA, lS, lZ]
 rintro v15_5 h15_5 v7_5 h7_5
 have hO5 := (hO4).trans (hb5.mono (hO4).size)
 have hT5 := TabV.below hT4 hb5
 refine hK5 _ _ ?_
 clear hK5 K5
 refine wp_seq_k fun K6 hK6 => ?_
 refine wp_plain_inv 5 (specs [Bts ((l1).take 34), Bts ((l2).take 100), Bts ((l3).take 70), Is (.int .i64 0), Is (.int .i64 0)]) (specs_stb ⟨Bts.stb _, Bts.stb _, Bts.stb _, Is.stb _, Is.stb _, trivial⟩) (by kernel_rfl) ?_ ?_
 ·refine ⟨fun a w hB hfr hdep => Step.plain rfl (dMove (R := Bts ((l1).take 34)) rfl (use (hfr 0 (by kernel_rfl)) ((Bts.stb _) _ _ _ hB ((Bts.stb _) _ _ _ hb5 ((Bts.stb _) _ _ _ hb4 ((Bts.stb _) _ _ _ hb3 h10_2)))))),
   fun a w hB hfr hdep => Step.plain rfl (dMove (R := Bts ((l2).take 100)) rfl (use (hfr 1 (by kernel_rfl)) ((Bts.stb _) _ _ _ hB ((Bts.stb _) _ _ _ hb5 ((Bts.stb _) _ _ _ hb4 h12_3))))),
   fun a w hB hfr hdep => Step.plain rfl (dMove (R := Bts ((l3).take 70)) rfl (use (hfr 2 (by kernel_rfl)) ((Bts.stb _) _ _ _ hB ((Bts.stb _) _ _ _ hb5 h14_4)))),
   fun a w hB hfr hdep => Step.plain rfl (Does.call 10 #[(a.eval (.tmp 16)), (a.eval (.tmp 17)), (a.eval (.tmp 18))] (by kernel_rfl) (hR w _ _ _ (hdep 0 16 (by kernel_rfl)) (hdep 1 17 (by kernel_rfl)) (hdep 2 18 (by kernel_rfl)))),
   fun a w hB hfr hdep => Step.plain rfl (dAssign (R := Is (.int .i64 0)) rfl (hdep 3 19 (by kernel_rfl))), trivial⟩
 intro u6 hb6
 simp only [List.take, List.drop, FinAll, Act.put, lA, lS, lZ]
 rintro v16_6 h16_6 v17_6 h17_6 v18_6 h18_6 _ rfl _ rfl
 have hO6 := (hO5).trans (hb6.mono (hO5).size)
 have hT6 := TabV.below hT5 hb6
 refine hK6 _ _ ?_
 clear hK6 K6
 refine wp_seq_k fun K7 hK7 => ?_
 refine wp_region_inv 13 (specs [Bts ((l1).take 34), Bts ((l2).take 100), Bts ((l3).take 70), Is (.int .i64 0), W3 u4.heap.size, Is (.int .i64 0), W3p 0, Is (.int .i64 0), Is (.bool true), Is (.bool true), Is (.bool true), Is (.bool true), Is (.bool true)]) (by kernel_rfl) (specs_stb ⟨Bts.stb _, Bts.stb _, Bts.stb _, Is.stb _, W3.stb _, Is.stb _, W3p.stb _, Is.stb _, Is.stb _, Is.stb _, Is.stb _, Is.stb _, Is.stb _, trivial⟩) (by kernel_rfl) ?_ ?_
 ·refine ⟨fun a w hB hfr hdep => Step.plain rfl (dMove (R := Bts ((l1).take 34)) rfl (use (hfr 0 (by kernel_rfl)) ((Bts.stb _) _ _ _ hB ((Bts.stb _) _ _ _ hb6 ((Bts.stb _) _ _ _ hb5 ((Bts.stb _) _ _ _ hb4 ((Bts.stb _) _ _ _ hb3 h10_2))))))),
   fun a w hB hfr hdep => Step.plain rfl (dMove (R := Bts ((l2).take 100)) rfl (use (hfr 1 (by kernel_rfl)) ((Bts.stb _) _ _ _ hB ((Bts.stb _) _ _ _ hb6 ((Bts.stb _) _ _ _ hb5 ((Bts.stb _) _ _ _ hb4 h12_3)))))),
   fun a w hB hfr hdep => Step.plain rfl (dMove (R := Bts ((l3).take 70)) rfl (use (hfr 2 (by kernel_rfl)) ((Bts.stb _) _ _ _ hB ((Bts.stb _) _ _ _ hb6 ((Bts.stb _) _ _ _ hb5 h14_4))))),
   fun a w hB hfr hdep => Step.plain rfl (Does.call 11 #[(a.eval (.tmp 20)), (a.eval (.tmp 21)), (a.eval (.tmp 22))] (by kernel_rfl) (hV w _ _ _ (TabV.below hT6 hB) (hdep 0 20 (by kernel_rfl)) (hdep 1 21 (by kernel_rfl)) (hdep 2 22 (by kernel_rfl)))),
   fun a w hB hfr hdep => Step.plain rfl (dMove (R := W3 u4.heap.size) rfl (use (hfr 7 (by kernel_rfl)) ((W3.stb _) _ _ _ hB ((W3.stb _) _ _ _ hb6 h7_5)))),
   fun a w hB hfr hdep => Step.plain rfl (dMove (R := Is (.int .i64 0)) rfl (hfr 8 (by kernel_rfl))),
   fun a w hB hfr hdep => Step.plain rfl (dW3idx (k := 0) (by decide) rfl (hdep 4 24 (by kernel_rfl)) (hdep 5 25 (by kernel_rfl))),
   fun a w hB hfr hdep => Step.plain rfl (dW3load (k := 0) rfl rfl (hdep 6 26 (by kernel_rfl))),
   fun a w hB hfr hdep => Step.plain rfl (Does.run _ (run_binO rfl (hdep 3 23 (by kernel_rfl)) (hdep 7 27 (by kernel_rfl)) (by kernel_rfl)) rfl),
   fun a w hB hfr hdep => Step.plain rfl (dMove (R := Is (.bool true)) rfl (hdep 8 28 (by kernel_rfl))),
   fun a w hB hfr hdep => Step.yes 9 29 true rfl rfl (hdep 9 29 (by kernel_rfl)) (Does.call 9 #[] (by kernel_rfl) (cLives w (TabV.below hT6 hB).1)),
   fun a w hB hfr hdep => Step.plain rfl (dPickT rfl (hdep 9 29 (by kernel_rfl)) (hdep 10 30 (by kernel_rfl))),
   fun a w hB hfr hdep => Step.plain rfl (dAssign (R := Is (.bool true)) rfl (hdep 11 31 (by kernel_rfl))), trivial⟩
 intro u7 hb7
 simp only [List.take, List.drop, FinAll, Act.put, lA, lS, lZ]
 rintro v20_7 h20_7 v21_7 h21_7 v22_7 h22_7 _ rfl v24_7 h24_7 _ rfl v26_7 h26_7 _ rfl _ rfl _ rfl _ rfl _ rfl _ rfl
 have hO7 := (hO6).trans (hb7.mono (hO6).size)
 have hT7 := TabV.below hT6 hb7
 refine hK7 _ _ ?_
 clear hK7 K7
 refine wp_ret ?_
 refine bodyPost_ret (results_tmp rfl _ _ _) rfl ?_
 exact ⟨_, rfl, hO7, rfl⟩
theorem signVerifies1 {v1 v2 v3 : Value} {l1 l2 l3 : List Nat} (w : World) (hT : TabV w) (hv1 : Bts l1 v1 w) (hv2 : Bts l2 v2 w) (hv3 : Bts l3 v3 w) (hd1 : Dig l1) (hd2 : Dig l2) (hd3 : Dig l3) (hV : ∀ w a b c, TabV w → Bts ((l1).take 34) a w → Bts ((l2).take 100) b w → Bts ((l3).take 70) c w → Ret 11 #[a, b, c] w (Is (.int .i64 11))) (hR : ∀ w a b c, Bts ((l1).take 34) a w → Bts ((l2).take 100) b w → Bts ((l3).take 70) c w → Ret 10 #[a, b, c] w (Is (.int .i64 1))) : Ret 4 #[v1, v2, v3] w (Is (.bool true)) := by
 unfold Ret
 have hO0 : Below w.heap.size w w := Below.refl _ _
 go_enter Tryz.func4, Tryz.ntmps4
 refine wp_seq_k fun K1 hK1 => ?_
 refine wp_plain_inv 1 (specs [Is (.bool false)]) (specs_stb ⟨Is.stb _, trivial⟩) (by kernel_rfl) ?_ ?_
 ·refine ⟨fun a w hB hfr hdep => Step.plain rfl (dAssign (R := Is (.bool false)) rfl rfl), trivial⟩
 intro u1 hb1
 simp only [List.take, List.drop, FinAll, Act.put, lA, lS, lZ]
 rintro _ rfl
 have hO1 := (hO0).trans (hb1.mono (hO0).size)
 have hT1 := TabV.below hT hb1
 refine hK1 _ _ ?_
 clear hK1 K1
 refine wp_seq_k fun K2 hK2 => ?_
 refine wp_plain_inv 2 (specs [Bts (l1), Bts ((l1).take 34)]) (specs_stb ⟨Bts.stb _, Bts.stb _, trivial⟩) (by kernel_rfl) ?_ ?_
 ·refine ⟨fun a w hB hfr hdep => Step.plain rfl (dMove (R := Bts (l1)) rfl (use (hfr 0 (by kernel_rfl)) ((Bts.stb _) _ _ _ hB ((Bts.stb _) _ _ _ hb1 hv1)))),
   fun a w hB hfr hdep => Step.plain rfl (Does.call 7 #[(a.eval (.tmp 9)), .int .i64 34] (by kernel_rfl) (cFew 34 w (hdep 0 9 (by kernel_rfl)) (by decide))), trivial⟩
 intro u2 hb2
 simp only [List.take, List.drop, FinAll, Act.put, lA, lS, lZ]
 rintro v9_2 h9_2 v10_2 h10_2
 refine wpList_assign rfl rfl rfl ?_
 simp only [Act.put, Act.eval, Array.getD_eq_getD_getElem?, List.getElem?_toArray, List.getElem?_cons_succ, List.getElem?_cons_zero, Option.getD_some, lA, lZ]
 have hO2 := (hO1).trans (hb2.mono (hO1).size)
 have hT2 := TabV.below hT1 hb2
 refine hK2 _ _ ?_
 clear hK2 K2
 refine wp_seq_k fun K3 hK3 => ?_
 refine wp_plain_inv 2 (specs [Bts (l2), Bts ((l2).take 100)]) (specs_stb ⟨Bts.stb _, Bts.stb _, trivial⟩) (by kernel_rfl) ?_ ?_
 ·refine ⟨fun a w hB hfr hdep => Step.plain rfl (dMove (R := Bts (l2)) rfl (use (hfr 1 (by kernel_rfl)) ((Bts.stb _) _ _ _ hB ((Bts.stb _) _ _ _ hb2 ((Bts.stb _) _ _ _ hb1 hv2))))),
   fun a w hB hfr hdep => Step.plain rfl (Does.call 7 #[(a.eval (.tmp 11)), .int .i64 100] (by kernel_rfl) (cFew 100 w (hdep 0 11 (by kernel_rfl)) (by decide))), trivial⟩
 intro u3 hb3
 simp only [List.take, List.drop, FinAll, Act.put, lA, lS, lZ]
 rintro v11_3 h11_3 v12_3 h12_3
 refine wpList_assign rfl rfl rfl ?_
 simp only [Act.put, Act.eval, Array.getD_eq_getD_getElem?, List.getElem?_toArray, List.getElem?_cons_succ, List.getElem?_cons_zero, Option.getD_some, lA, lS, lZ]
 have hO3 := (hO2).trans (hb3.mono (hO2).size)
 have hT3 := TabV.below hT2 hb3
 refine hK3 _ _ ?_
 clear hK3 K3
 refine wp_seq_k fun K4 hK4 => ?_
 refine wp_plain_inv 2 (specs [Bts (l3), Bts ((l3).take 70)]) (specs_stb ⟨Bts.stb _, Bts.stb _, trivial⟩) (by kernel_rfl) ?_ ?_
 ·refine ⟨fun a w hB hfr hdep => Step.plain rfl (dMove (R := Bts (l3)) rfl (use (hfr 2 (by kernel_rfl)) ((Bts.stb _) _ _ _ hB ((Bts.stb _) _ _ _ hb3 ((Bts.stb _) _ _ _ hb2 ((Bts.stb _) _ _ _ hb1 hv3)))))),
   fun a w hB hfr hdep => Step.plain rfl (Does.call 7 #[(a.eval (.tmp 13)), .int .i64 70] (by kernel_rfl) (cFew 70 w (hdep 0 13 (by kernel_rfl)) (by decide))), trivial⟩
 intro u4 hb4
 simp only [List.take, List.drop, FinAll, Act.put, lA, lS, lZ]
 rintro v13_4 h13_4 v14_4 h14_4
 refine wpList_assign rfl rfl rfl ?_
 simp only [Act.put, Act.eval, Array.getD_eq_getD_getElem?, List.getElem?_toArray, List.getElem?_cons_succ, List.getElem?_cons_zero, Option.getD_some, lA, lS, lZ]
 have hO4 := (hO3).trans (hb4.mono (hO3).size)
 have hT4 := TabV.below hT3 hb4
 refine hK4 _ _ ?_
 clear hK4 K4
 refine wp_seq_k fun K5 hK5 => ?_
 refine wp_plain_inv 2 (specs [W3 u4.heap.size, W3 u4.heap.size]) (specs_stb ⟨W3.stb _, W3.stb _, trivial⟩) (by kernel_rfl) ?_ ?_
 ·refine ⟨fun a w hB hfr hdep => Step.plain rfl (dW3 hB.size rfl),
   fun a w hB hfr hdep => Step.plain rfl (dAssign (R := W3 u4.heap.size) rfl (hdep 0 15 (by kernel_rfl))), trivial⟩
 intro u5 hb5
 simp only [List.take, List.drop, FinAll, Act.put, lA, lS, lZ]
 rintro v15_5 h15_5 v7_5 h7_5
 have hO5 := (hO4).trans (hb5.mono (hO4).size)
 have hT5 := TabV.below hT4 hb5
 refine hK5 _ _ ?_
 clear hK5 K5
 refine wp_seq_k fun K6 hK6 => ?_
 refine wp_plain_inv 5 (specs [Bts ((l1).take 34), Bts ((l2).take 100), Bts ((l3).take 70), Is (.int .i64 1), Is (.int .i64 1)]) (specs_stb ⟨Bts.stb _, Bts.stb _, Bts.stb _, Is.stb _, Is.stb _, trivial⟩) (by kernel_rfl) ?_ ?_
 ·refine ⟨fun a w hB hfr hdep => Step.plain rfl (dMove (R := Bts ((l1).take 34)) rfl (use (hfr 0 (by kernel_rfl)) ((Bts.stb _) _ _ _ hB ((Bts.stb _) _ _ _ hb5 ((Bts.stb _) _ _ _ hb4 ((Bts.stb _) _ _ _ hb3 h10_2)))))),
   fun a w hB hfr hdep => Step.plain rfl (dMove (R := Bts ((l2).take 100)) rfl (use (hfr 1 (by kernel_rfl)) ((Bts.stb _) _ _ _ hB ((Bts.stb _) _ _ _ hb5 ((Bts.stb _) _ _ _ hb4 h12_3))))),
   fun a w hB hfr hdep => Step.plain rfl (dMove (R := Bts ((l3).take 70)) rfl (use (hfr 2 (by kernel_rfl)) ((Bts.stb _) _ _ _ hB ((Bts.stb _) _ _ _ hb5 h14_4)))),
   fun a w hB hfr hdep => Step.plain rfl (Does.call 10 #[(a.eval (.tmp 16)), (a.eval (.tmp 17)), (a.eval (.tmp 18))] (by kernel_rfl) (hR w _ _ _ (hdep 0 16 (by kernel_rfl)) (hdep 1 17 (by kernel_rfl)) (hdep 2 18 (by kernel_rfl)))),
   fun a w hB hfr hdep => Step.plain rfl (dAssign (R := Is (.int .i64 1)) rfl (hdep 3 19 (by kernel_rfl))), trivial⟩
 intro u6 hb6
 simp only [List.take, List.drop, FinAll, Act.put, lA, lS, lZ]
 rintro v16_6 h16_6 v17_6 h17_6 v18_6 h18_6 _ rfl _ rfl
 have hO6 := (hO5).trans (hb6.mono (hO5).size)
 have hT6 := TabV.below hT5 hb6
 refine hK6 _ _ ?_
 clear hK6 K6
 refine wp_seq_k fun K7 hK7 => ?_
 refine wp_region_inv 13 (specs [Bts ((l1).take 34), Bts ((l2).take 100), Bts ((l3).take 70), Is (.int .i64 11), W3 u4.heap.size, Is (.int .i64 1), W3p 1, Is (.int .i64 11), Is (.bool true), Is (.bool true), Is (.bool true), Is (.bool true), Is (.bool true)]) (by kernel_rfl) (specs_stb ⟨Bts.stb _, Bts.stb _, Bts.stb _, Is.stb _, W3.stb _, Is.stb _, W3p.stb _, Is.stb _, Is.stb _, Is.stb _, Is.stb _, Is.stb _, Is.stb _, trivial⟩) (by kernel_rfl) ?_ ?_
 ·refine ⟨fun a w hB hfr hdep => Step.plain rfl (dMove (R := Bts ((l1).take 34)) rfl (use (hfr 0 (by kernel_rfl)) ((Bts.stb _) _ _ _ hB ((Bts.stb _) _ _ _ hb6 ((Bts.stb _) _ _ _ hb5 ((Bts.stb _) _ _ _ hb4 ((Bts.stb _) _ _ _ hb3 h10_2))))))),
   fun a w hB hfr hdep => Step.plain rfl (dMove (R := Bts ((l2).take 100)) rfl (use (hfr 1 (by kernel_rfl)) ((Bts.stb _) _ _ _ hB ((Bts.stb _) _ _ _ hb6 ((Bts.stb _) _ _ _ hb5 ((Bts.stb _) _ _ _ hb4 h12_3)))))),
   fun a w hB hfr hdep => Step.plain rfl (dMove (R := Bts ((l3).take 70)) rfl (use (hfr 2 (by kernel_rfl)) ((Bts.stb _) _ _ _ hB ((Bts.stb _) _ _ _ hb6 ((Bts.stb _) _ _ _ hb5 h14_4))))),
   fun a w hB hfr hdep => Step.plain rfl (Does.call 11 #[(a.eval (.tmp 20)), (a.eval (.tmp 21)), (a.eval (.tmp 22))] (by kernel_rfl) (hV w _ _ _ (TabV.below hT6 hB) (hdep 0 20 (by kernel_rfl)) (hdep 1 21 (by kernel_rfl)) (hdep 2 22 (by kernel_rfl)))),
   fun a w hB hfr hdep => Step.plain rfl (dMove (R := W3 u4.heap.size) rfl (use (hfr 7 (by kernel_rfl)) ((W3.stb _) _ _ _ hB ((W3.stb _) _ _ _ hb6 h7_5)))),
   fun a w hB hfr hdep => Step.plain rfl (dMove (R := Is (.int .i64 1)) rfl (hfr 8 (by kernel_rfl))),
   fun a w hB hfr hdep => Step.plain rfl (dW3idx (k := 1) (by decide) rfl (hdep 4 24 (by kernel_rfl)) (hdep 5 25 (by kernel_rfl))),
   fun a w hB hfr hdep => Step.plain rfl (dW3load (k := 1) rfl rfl (hdep 6 26 (by kernel_rfl))),
   fun a w hB hfr hdep => Step.plain rfl (Does.run _ (run_binO rfl (hdep 3 23 (by kernel_rfl)) (hdep 7 27 (by kernel_rfl)) (by kernel_rfl)) rfl),
   fun a w hB hfr hdep => Step.plain rfl (dMove (R := Is (.bool true)) rfl (hdep 8 28 (by kernel_rfl))),
   fun a w hB hfr hdep => Step.yes 9 29 true rfl rfl (hdep 9 29 (by kernel_rfl)) (Does.call 9 #[] (by kernel_rfl) (cLives w (TabV.below hT6 hB).1)),
   fun a w hB hfr hdep => Step.plain rfl (dPickT rfl (hdep 9 29 (by kernel_rfl)) (hdep 10 30 (by kernel_rfl))),
   fun a w hB hfr hdep => Step.plain rfl (dAssign (R := Is (.bool true)) rfl (hdep 11 31 (by kernel_rfl))), trivial⟩
 intro u7 hb7
 simp only [List.take, List.drop, FinAll, Act.put, lA, lS, lZ]
 rintro v20_7 h20_7 v21_7 h21_7 v22_7 h22_7 _ rfl v24_7 h24_7 _ rfl v26_7 h26_7 _ rfl _ rfl _ rfl _ rfl _ rfl _ rfl
 have hO7 := (hO6).trans (hb7.mono (hO6).size)
 have hT7 := TabV.below hT6 hb7
 refine hK7 _ _ ?_
 clear hK7 K7
 refine wp_ret ?_
 refine bodyPost_ret (results_tmp rfl _ _ _) rfl ?_
 exact ⟨_, rfl, hO7, rfl⟩
theorem signVerifies2 {v1 v2 v3 : Value} {l1 l2 l3 : List Nat} (w : World) (hT : TabV w) (hv1 : Bts l1 v1 w) (hv2 : Bts l2 v2 w) (hv3 : Bts l3 v3 w) (hd1 : Dig l1) (hd2 : Dig l2) (hd3 : Dig l3) (hV : ∀ w a b c, TabV w → Bts ((l1).take 34) a w → Bts ((l2).take 100) b w → Bts ((l3).take 70) c w → Ret 11 #[a, b, c] w (Is (.int .i64 10))) (hR : ∀ w a b c, Bts ((l1).take 34) a w → Bts ((l2).take 100) b w → Bts ((l3).take 70) c w → Ret 10 #[a, b, c] w (Is (.int .i64 2))) : Ret 4 #[v1, v2, v3] w (Is (.bool true)) := by
 unfold Ret
 have hO0 : Below w.heap.size w w := Below.refl _ _
 go_enter Tryz.func4, Tryz.ntmps4
 refine wp_seq_k fun K1 hK1 => ?_
 refine wp_plain_inv 1 (specs [Is (.bool false)]) (specs_stb ⟨Is.stb _, trivial⟩) (by kernel_rfl) ?_ ?_
 ·refine ⟨fun a w hB hfr hdep => Step.plain rfl (dAssign (R := Is (.bool false)) rfl rfl), trivial⟩
 intro u1 hb1
 simp only [List.take, List.drop, FinAll, Act.put, lA, lS, lZ]
 rintro _ rfl
 have hO1 := (hO0).trans (hb1.mono (hO0).size)
 have hT1 := TabV.below hT hb1
 refine hK1 _ _ ?_
 clear hK1 K1
 refine wp_seq_k fun K2 hK2 => ?_
 refine wp_plain_inv 2 (specs [Bts (l1), Bts ((l1).take 34)]) (specs_stb ⟨Bts.stb _, Bts.stb _, trivial⟩) (by kernel_rfl) ?_ ?_
 ·refine ⟨fun a w hB hfr hdep => Step.plain rfl (dMove (R := Bts (l1)) rfl (use (hfr 0 (by kernel_rfl)) ((Bts.stb _) _ _ _ hB ((Bts.stb _) _ _ _ hb1 hv1)))),
   fun a w hB hfr hdep => Step.plain rfl (Does.call 7 #[(a.eval (.tmp 9)), .int .i64 34] (by kernel_rfl) (cFew 34 w (hdep 0 9 (by kernel_rfl)) (by decide))), trivial⟩
 intro u2 hb2
 simp only [List.take, List.drop, FinAll, Act.put, lA, lS, lZ]
 rintro v9_2 h9_2 v10_2 h10_2
 refine wpList_assign rfl rfl rfl ?_
 simp only [Act.put, Act.eval, Array.getD_eq_getD_getElem?, List.getElem?_toArray, List.getElem?_cons_succ, List.getElem?_cons_zero, Option.getD_some, lA, lZ]
 have hO2 := (hO1).trans (hb2.mono (hO1).size)
 have hT2 := TabV.below hT1 hb2
 refine hK2 _ _ ?_
 clear hK2 K2
 refine wp_seq_k fun K3 hK3 => ?_
 refine wp_plain_inv 2 (specs [Bts (l2), Bts ((l2).take 100)]) (specs_stb ⟨Bts.stb _, Bts.stb _, trivial⟩) (by kernel_rfl) ?_ ?_
 ·refine ⟨fun a w hB hfr hdep => Step.plain rfl (dMove (R := Bts (l2)) rfl (use (hfr 1 (by kernel_rfl)) ((Bts.stb _) _ _ _ hB ((Bts.stb _) _ _ _ hb2 ((Bts.stb _) _ _ _ hb1 hv2))))),
   fun a w hB hfr hdep => Step.plain rfl (Does.call 7 #[(a.eval (.tmp 11)), .int .i64 100] (by kernel_rfl) (cFew 100 w (hdep 0 11 (by kernel_rfl)) (by decide))), trivial⟩
 intro u3 hb3
 simp only [List.take, List.drop, FinAll, Act.put, lA, lS, lZ]
 rintro v11_3 h11_3 v12_3 h12_3
 refine wpList_assign rfl rfl rfl ?_
 simp only [Act.put, Act.eval, Array.getD_eq_getD_getElem?, List.getElem?_toArray, List.getElem?_cons_succ, List.getElem?_cons_zero, Option.getD_some, lA, lS, lZ]
 have hO3 := (hO2).trans (hb3.mono (hO2).size)
 have hT3 := TabV.below hT2 hb3
 refine hK3 _ _ ?_
 clear hK3 K3
 refine wp_seq_k fun K4 hK4 => ?_
 refine wp_plain_inv 2 (specs [Bts (l3), Bts ((l3).take 70)]) (specs_stb ⟨Bts.stb _, Bts.stb _, trivial⟩) (by kernel_rfl) ?_ ?_
 ·refine ⟨fun a w hB hfr hdep => Step.plain rfl (dMove (R := Bts (l3)) rfl (use (hfr 2 (by kernel_rfl)) ((Bts.stb _) _ _ _ hB ((Bts.stb _) _ _ _ hb3 ((Bts.stb _) _ _ _ hb2 ((Bts.stb _) _ _ _ hb1 hv3)))))),
   fun a w hB hfr hdep => Step.plain rfl (Does.call 7 #[(a.eval (.tmp 13)), .int .i64 70] (by kernel_rfl) (cFew 70 w (hdep 0 13 (by kernel_rfl)) (by decide))), trivial⟩
 intro u4 hb4
 simp only [List.take, List.drop, FinAll, Act.put, lA, lS, lZ]
 rintro v13_4 h13_4 v14_4 h14_4
 refine wpList_assign rfl rfl rfl ?_
 simp only [Act.put, Act.eval, Array.getD_eq_getD_getElem?, List.getElem?_toArray, List.getElem?_cons_succ, List.getElem?_cons_zero, Option.getD_some, lA, lS, lZ]
 have hO4 := (hO3).trans (hb4.mono (hO3).size)
 have hT4 := TabV.below hT3 hb4
 refine hK4 _ _ ?_
 clear hK4 K4
 refine wp_seq_k fun K5 hK5 => ?_
 refine wp_plain_inv 2 (specs [W3 u4.heap.size, W3 u4.heap.size]) (specs_stb ⟨W3.stb _, W3.stb _, trivial⟩) (by kernel_rfl) ?_ ?_
 ·refine ⟨fun a w hB hfr hdep => Step.plain rfl (dW3 hB.size rfl),
   fun a w hB hfr hdep => Step.plain rfl (dAssign (R := W3 u4.heap.size) rfl (hdep 0 15 (by kernel_rfl))), trivial⟩
 intro u5 hb5
 simp only [List.take, List.drop, FinAll, Act.put, lA, lS, lZ]
 rintro v15_5 h15_5 v7_5 h7_5
 have hO5 := (hO4).trans (hb5.mono (hO4).size)
 have hT5 := TabV.below hT4 hb5
 refine hK5 _ _ ?_
 clear hK5 K5
 refine wp_seq_k fun K6 hK6 => ?_
 refine wp_plain_inv 5 (specs [Bts ((l1).take 34), Bts ((l2).take 100), Bts ((l3).take 70), Is (.int .i64 2), Is (.int .i64 2)]) (specs_stb ⟨Bts.stb _, Bts.stb _, Bts.stb _, Is.stb _, Is.stb _, trivial⟩) (by kernel_rfl) ?_ ?_
 ·refine ⟨fun a w hB hfr hdep => Step.plain rfl (dMove (R := Bts ((l1).take 34)) rfl (use (hfr 0 (by kernel_rfl)) ((Bts.stb _) _ _ _ hB ((Bts.stb _) _ _ _ hb5 ((Bts.stb _) _ _ _ hb4 ((Bts.stb _) _ _ _ hb3 h10_2)))))),
   fun a w hB hfr hdep => Step.plain rfl (dMove (R := Bts ((l2).take 100)) rfl (use (hfr 1 (by kernel_rfl)) ((Bts.stb _) _ _ _ hB ((Bts.stb _) _ _ _ hb5 ((Bts.stb _) _ _ _ hb4 h12_3))))),
   fun a w hB hfr hdep => Step.plain rfl (dMove (R := Bts ((l3).take 70)) rfl (use (hfr 2 (by kernel_rfl)) ((Bts.stb _) _ _ _ hB ((Bts.stb _) _ _ _ hb5 h14_4)))),
   fun a w hB hfr hdep => Step.plain rfl (Does.call 10 #[(a.eval (.tmp 16)), (a.eval (.tmp 17)), (a.eval (.tmp 18))] (by kernel_rfl) (hR w _ _ _ (hdep 0 16 (by kernel_rfl)) (hdep 1 17 (by kernel_rfl)) (hdep 2 18 (by kernel_rfl)))),
   fun a w hB hfr hdep => Step.plain rfl (dAssign (R := Is (.int .i64 2)) rfl (hdep 3 19 (by kernel_rfl))), trivial⟩
 intro u6 hb6
 simp only [List.take, List.drop, FinAll, Act.put, lA, lS, lZ]
 rintro v16_6 h16_6 v17_6 h17_6 v18_6 h18_6 _ rfl _ rfl
 have hO6 := (hO5).trans (hb6.mono (hO5).size)
 have hT6 := TabV.below hT5 hb6
 refine hK6 _ _ ?_
 clear hK6 K6
 refine wp_seq_k fun K7 hK7 => ?_
 refine wp_region_inv 13 (specs [Bts ((l1).take 34), Bts ((l2).take 100), Bts ((l3).take 70), Is (.int .i64 10), W3 u4.heap.size, Is (.int .i64 2), W3p 2, Is (.int .i64 10), Is (.bool true), Is (.bool true), Is (.bool true), Is (.bool true), Is (.bool true)]) (by kernel_rfl) (specs_stb ⟨Bts.stb _, Bts.stb _, Bts.stb _, Is.stb _, W3.stb _, Is.stb _, W3p.stb _, Is.stb _, Is.stb _, Is.stb _, Is.stb _, Is.stb _, Is.stb _, trivial⟩) (by kernel_rfl) ?_ ?_
 ·refine ⟨fun a w hB hfr hdep => Step.plain rfl (dMove (R := Bts ((l1).take 34)) rfl (use (hfr 0 (by kernel_rfl)) ((Bts.stb _) _ _ _ hB ((Bts.stb _) _ _ _ hb6 ((Bts.stb _) _ _ _ hb5 ((Bts.stb _) _ _ _ hb4 ((Bts.stb _) _ _ _ hb3 h10_2))))))),
   fun a w hB hfr hdep => Step.plain rfl (dMove (R := Bts ((l2).take 100)) rfl (use (hfr 1 (by kernel_rfl)) ((Bts.stb _) _ _ _ hB ((Bts.stb _) _ _ _ hb6 ((Bts.stb _) _ _ _ hb5 ((Bts.stb _) _ _ _ hb4 h12_3)))))),
   fun a w hB hfr hdep => Step.plain rfl (dMove (R := Bts ((l3).take 70)) rfl (use (hfr 2 (by kernel_rfl)) ((Bts.stb _) _ _ _ hB ((Bts.stb _) _ _ _ hb6 ((Bts.stb _) _ _ _ hb5 h14_4))))),
   fun a w hB hfr hdep => Step.plain rfl (Does.call 11 #[(a.eval (.tmp 20)), (a.eval (.tmp 21)), (a.eval (.tmp 22))] (by kernel_rfl) (hV w _ _ _ (TabV.below hT6 hB) (hdep 0 20 (by kernel_rfl)) (hdep 1 21 (by kernel_rfl)) (hdep 2 22 (by kernel_rfl)))),
   fun a w hB hfr hdep => Step.plain rfl (dMove (R := W3 u4.heap.size) rfl (use (hfr 7 (by kernel_rfl)) ((W3.stb _) _ _ _ hB ((W3.stb _) _ _ _ hb6 h7_5)))),
   fun a w hB hfr hdep => Step.plain rfl (dMove (R := Is (.int .i64 2)) rfl (hfr 8 (by kernel_rfl))),
   fun a w hB hfr hdep => Step.plain rfl (dW3idx (k := 2) (by decide) rfl (hdep 4 24 (by kernel_rfl)) (hdep 5 25 (by kernel_rfl))),
   fun a w hB hfr hdep => Step.plain rfl (dW3load (k := 2) rfl rfl (hdep 6 26 (by kernel_rfl))),
   fun a w hB hfr hdep => Step.plain rfl (Does.run _ (run_binO rfl (hdep 3 23 (by kernel_rfl)) (hdep 7 27 (by kernel_rfl)) (by kernel_rfl)) rfl),
   fun a w hB hfr hdep => Step.plain rfl (dMove (R := Is (.bool true)) rfl (hdep 8 28 (by kernel_rfl))),
   fun a w hB hfr hdep => Step.yes 9 29 true rfl rfl (hdep 9 29 (by kernel_rfl)) (Does.call 9 #[] (by kernel_rfl) (cLives w (TabV.below hT6 hB).1)),
   fun a w hB hfr hdep => Step.plain rfl (dPickT rfl (hdep 9 29 (by kernel_rfl)) (hdep 10 30 (by kernel_rfl))),
   fun a w hB hfr hdep => Step.plain rfl (dAssign (R := Is (.bool true)) rfl (hdep 11 31 (by kernel_rfl))), trivial⟩
 intro u7 hb7
 simp only [List.take, List.drop, FinAll, Act.put, lA, lS, lZ]
 rintro v20_7 h20_7 v21_7 h21_7 v22_7 h22_7 _ rfl v24_7 h24_7 _ rfl v26_7 h26_7 _ rfl _ rfl _ rfl _ rfl _ rfl _ rfl
 have hO7 := (hO6).trans (hb7.mono (hO6).size)
 have hT7 := TabV.below hT6 hb7
 refine hK7 _ _ ?_
 clear hK7 K7
 refine wp_ret ?_
 refine bodyPost_ret (results_tmp rfl _ _ _) rfl ?_
 exact ⟨_, rfl, hO7, rfl⟩
theorem signVerifies {v1 v2 v3 : Value} {l1 l2 l3 : List Nat} (w : World) (hT : TabV w) (hv1 : Bts l1 v1 w) (hv2 : Bts l2 v2 w) (hv3 : Bts l3 v3 w) (hd1 : Dig l1) (hd2 : Dig l2) (hd3 : Dig l3) : Ret 4 #[v1, v2, v3] w (Is (.bool true)) := by
 have dp := Dig.take hd1 34
 have dm := Dig.take hd2 100
 have ds := Dig.take hd3 70
 have lm : ((l2).take 100).length ≤ 50000 := by rw [List.length_take]; omega
 have hBase := rBase
 have key : (∀ v w, TabV w → Bts ((l1).take 34) v w → Ret 30 #[v] w (Tup2 (Is (.agg (ptc zeroE zeroE zeroE zeroE))) (Is (.int .i64 2)))) → (∀ v w, Bts ((l1).take 34) v w → Ret 25 #[v] w (Tup2 (Is (.agg #[.slice none 0 0, .slice none 0 0])) (Is (.bool false)))) → Ret 4 #[v1, v2, v3] w (Is (.bool true)) := fun h11 h12 =>
  signVerifies1 w hT hv1 hv2 hv3 hd1 hd2 hd3 (fun w a b c hT ha hb hc => verKey w hT ha hb hc dp dm ds h11) (fun w a b c ha hb hc => rVerKey hBase w ha hb hc dp dm ds h12)
 by_cases h32 : ((l1).take 34).length = 32
 ·by_cases hp : ∃ P : Pt, P.enc = valD ((l1).take 34)
  ·obtain ⟨P, hP⟩ := hp
   by_cases h64 : ((l3).take 70).length = 64
   ·cases hIs : isL ((((l3).take 70)).drop 32) with
    | false => exact signVerifies2 w hT hv1 hv2 hv3 hd1 hd2 hd3 (fun w a b c hT ha hb hc => verIs w hT ha hb hc dp dm ds hP h32 h64 hIs) (fun w a b c ha hb hc => rVerIs hBase w ha hb hc dp dm ds hP h32 h64 hIs)
    | true =>
     have hn := Pt.neg_nm P (valD (digs 32 (numL ((((l3).take 70)).take 32 ++ (l1).take 34 ++ (l2).take 100))))
     have hs : ∀ x : Pt, ((strOf (digs 32 x.enc)).toList == (strOf ((((l3).take 70)).take 32)).toList) = decide (digs 32 x.enc = (((l3).take 70)).take 32) := fun x => strOf_eq (digs_dig _ _) (Dig.take ds _)
     have hv := fun (b : Bool) => fun (hE : decide ((((l3).take 70)).take 32 = digs 32 (Pt.enc ((bp.nm (valD ((((l3).take 70)).drop 32))).add ((P.nm (valD (digs 32 (numL ((((l3).take 70)).take 32 ++ (l1).take 34 ++ (l2).take 100))))).neg)))) = b) => hE
     have hr := fun (b : Bool) => fun (hE : ((strOf (digs 32 (Pt.enc ((bp.nm (valD ((((l3).take 70)).drop 32))).add ((P.neg).nm (valD (digs 32 (numL ((((l3).take 70)).take 32 ++ (l1).take 34 ++ (l2).take 100))))))))).toList == (strOf ((((l3).take 70)).take 32)).toList) = !b) => hE
     by_cases hE : (((l3).take 70)).take 32 = digs 32 (Pt.enc ((bp.nm (valD ((((l3).take 70)).drop 32))).add ((P.nm (valD (digs 32 (numL ((((l3).take 70)).take 32 ++ (l1).take 34 ++ (l2).take 100))))).neg)))
     ·exact signVerifies0 w hT hv1 hv2 hv3 hd1 hd2 hd3 (fun w a b c hT ha hb hc => verOk w hT ha hb hc dp dm ds hP h32 h64 lm hIs (hv true (decide_eq_true hE))) (fun w a b c ha hb hc => rVerOk hBase w ha hb hc dp dm ds hP h32 h64 lm hIs (hr false (by rw [hs, hn]; exact decide_eq_true hE.symm)))
     ·exact signVerifies2 w hT hv1 hv2 hv3 hd1 hd2 hd3 (fun w a b c hT ha hb hc => verNo w hT ha hb hc dp dm ds hP h32 h64 lm hIs (hv false (decide_eq_false hE))) (fun w a b c ha hb hc => rVerNo hBase w ha hb hc dp dm ds hP h32 h64 lm hIs (hr true (by rw [hs, hn]; exact decide_eq_false fun h => hE h.symm)))
   ·exact signVerifies2 w hT hv1 hv2 hv3 hd1 hd2 hd3 (fun w a b c hT ha hb hc => verLen w hT ha hb hc dp dm ds hP h32 rfl h64) (fun w a b c ha hb hc => rVerLen hBase w ha hb hc dp dm ds hP h32 rfl h64)
  ·exact key (fun v w hT h => cReadErr w hT.2 h h32 dp hp) (fun v w h => rReadErr w h h32 dp hp)
 ·refine key (fun v w hT h => ?_) (fun v w h => ?_)
  ·obtain ⟨a, cap, rfl, _⟩ := h
   exact cReadLen a _ cap w h32
  ·obtain ⟨a, cap, rfl, _⟩ := h
   exact rReadLen a _ cap w h32
end Go.Proofs.YtabgihjffjlfiaaGreatDoor
