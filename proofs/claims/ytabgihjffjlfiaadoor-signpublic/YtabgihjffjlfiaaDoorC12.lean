/-
  The walk of SignPublic.
-/
import Derived.Test.YtabgihjffjlfiaaDoorC11
set_option linter.unusedVariables false
namespace Go.Proofs.YtabgihjffjlfiaaDoor
open Go.RowKit Go.Sort Go.BigFrame EN
set_option maxRecDepth 100000
set_option maxHeartbeats 2000000
theorem signPublicY {v1 : Value} {l1 : List Nat} (w : World) (hT : TabA w) (hv1 : Bts l1 v1 w) (hd1 : Dig l1) (h32 : ((l1).take 40).length = 32) : Ret 3 #[v1] w (Is (.bool true)) := by
  unfold Ret
  have hO0 : Below w.heap.size w w := Below.refl _ _
  go_enter Tryd.func3, Tryd.ntmps3
  refine wp_seq_k fun K1 hK1 => ?_
  refine wp_plain_inv 1 (specs [Is (.bool false)]) (specs_stb ⟨Is.stb _, trivial⟩) (by kernel_rfl) ?_ ?_
  · refine ⟨fun a w hB hfr hdep => Step.plain rfl (dAssign (R := Is (.bool false)) rfl rfl), trivial⟩
  intro u1 hb1
  simp only [List.take, List.drop, FinAll, Act.put, List.setIfInBounds_toArray, List.set_cons_succ, List.set_cons_zero]
  rintro _ rfl
  have hO1 := (hO0).trans (hb1.mono (hO0).size)
  have hT1 := TabA.below hT hb1
  refine hK1 _ _ ?_
  clear hK1 K1
  refine wp_seq_k fun K2 hK2 => ?_
  refine wp_plain_inv 2 (specs [Bts (l1), Bts ((l1).take 40)]) (specs_stb ⟨Bts.stb _, Bts.stb _, trivial⟩) (by kernel_rfl) ?_ ?_
  · refine ⟨fun a w hB hfr hdep => Step.plain rfl (dMove (R := Bts (l1)) rfl (use (hfr 0 (by kernel_rfl)) ((Bts.stb _) _ _ _ hB ((Bts.stb _) _ _ _ hb1 hv1)))),
      fun a w hB hfr hdep => Step.plain rfl (Does.call 7 #[(a.eval (.tmp 7)), .int .i64 40] (by kernel_rfl) (cFew 40 w (hdep 0 7 (by kernel_rfl)) (by decide))), trivial⟩
  intro u2 hb2
  simp only [List.take, List.drop, FinAll, Act.put, List.setIfInBounds_toArray, List.set_cons_succ, List.set_cons_zero]
  rintro v7_2 h7_2 v8_2 h8_2
  refine wpList_assign rfl rfl rfl ?_
  simp only [Act.put, Act.eval, Array.getD_eq_getD_getElem?, List.getElem?_toArray, List.getElem?_cons_succ, List.getElem?_cons_zero, Option.getD_some, List.setIfInBounds_toArray, List.set_cons_zero]
  have hO2 := (hO1).trans (hb2.mono (hO1).size)
  have hT2 := TabA.below hT1 hb2
  refine hK2 _ _ ?_
  clear hK2 K2
  refine wp_seq_k fun K3 hK3 => ?_
  refine wp_plain_inv 7 (specs [Bts ((l1).take 40), Tup2 (Own u2.heap.size (PUB ((l1).take 40))) (Is (.int .i64 0)), Tup2 (Own u2.heap.size (PUB ((l1).take 40))) (Is (.int .i64 0)), Own u2.heap.size (PUB ((l1).take 40)), Is (.int .i64 0), Own u2.heap.size (PUB ((l1).take 40)), Is (.int .i64 0)]) (specs_stb ⟨Bts.stb _, Tup2.stb (Own.stb _ _) (Is.stb _), Tup2.stb (Own.stb _ _) (Is.stb _), Own.stb _ _, Is.stb _, Own.stb _ _, Is.stb _, trivial⟩) (by kernel_rfl) ?_ ?_
  · refine ⟨fun a w hB hfr hdep => Step.plain rfl (dMove (R := Bts ((l1).take 40)) rfl (use (hfr 0 (by kernel_rfl)) ((Bts.stb _) _ _ _ hB h8_2))),
      fun a w hB hfr hdep => Step.plain rfl (Does.call 8 #[(a.eval (.tmp 10))] (by kernel_rfl) (tupLo hB.size (cPublic w (TabA.below hT2 hB) (hdep 0 10 (by kernel_rfl)) (Dig.take hd1 _) h32))),
      fun a w hB hfr hdep => Step.plain rfl (dMove (R := Tup2 (Own u2.heap.size (PUB ((l1).take 40))) (Is (.int .i64 0))) rfl (hdep 1 11 (by kernel_rfl))),
      fun a w hB hfr hdep => Step.plain rfl (dExt0 rfl (hdep 2 9 (by kernel_rfl))),
      fun a w hB hfr hdep => Step.plain rfl (dExt1 rfl (hdep 2 9 (by kernel_rfl))),
      fun a w hB hfr hdep => Step.plain rfl (dAssign (R := Own u2.heap.size (PUB ((l1).take 40))) rfl (hdep 3 12 (by kernel_rfl))),
      fun a w hB hfr hdep => Step.plain rfl (dAssign (R := Is (.int .i64 0)) rfl (hdep 4 13 (by kernel_rfl))), trivial⟩
  intro u3 hb3
  simp only [List.take, List.drop, FinAll, Act.put, List.setIfInBounds_toArray, List.set_cons_succ, List.set_cons_zero]
  rintro v10_3 h10_3 v11_3 h11_3 v9_3 h9_3 v12_3 h12_3 _ rfl v3_3 h3_3 _ rfl
  have hO3 := (hO2).trans (hb3.mono (hO2).size)
  have hT3 := TabA.below hT2 hb3
  refine hK3 _ _ ?_
  clear hK3 K3
  refine wp_seq_k fun KO1 hKO1 => ?_
  refine wp_seq_k fun K4 hK4 => ?_
  refine wp_plain_inv 3 (specs [Bts ((l1).take 40), Is (.int .i64 32), Is (.bool false)]) (specs_stb ⟨Bts.stb _, Is.stb _, Is.stb _, trivial⟩) (by kernel_rfl) ?_ ?_
  · refine ⟨fun a w hB hfr hdep => Step.plain rfl (dMove (R := Bts ((l1).take 40)) rfl (use (hfr 0 (by kernel_rfl)) ((Bts.stb _) _ _ _ hB ((Bts.stb _) _ _ _ hb3 h8_2)))),
      fun a w hB hfr hdep => Step.plain rfl (dLenB h32 rfl (hdep 0 14 (by kernel_rfl))),
      fun a w hB hfr hdep => Step.plain rfl (Does.run _ (run_binO rfl (hdep 1 15 (by kernel_rfl)) rfl (by kernel_rfl)) rfl), trivial⟩
  intro u4 hb4
  simp only [List.take, List.drop, FinAll, Act.put, List.setIfInBounds_toArray, List.set_cons_succ, List.set_cons_zero]
  rintro v14_4 h14_4 _ rfl _ rfl
  have hO4 := (hO3).trans (hb4.mono (hO3).size)
  have hT4 := TabA.below hT3 hb4
  refine hK4 _ _ ?_
  clear hK4 K4
  refine wp_cond_false rfl ?_
  refine wp_skip ?_
  refine hKO1 _ _ ?_
  clear hKO1 KO1
  refine wp_seq_k fun K5 hK5 => ?_
  refine wp_region_inv 14 (specs [Own u2.heap.size (PUB ((l1).take 40)), Is (.string (strOf (PUB ((l1).take 40)))), Bts ((l1).take 40), OwnC u4.heap.size (PUB ((l1).take 40)), Is (.string (strOf (PUB ((l1).take 40)))), Is (.bool true), Is (.bool true), Is (.int .i64 0), Is (.bool true), Is (.bool true), Is (.bool true), Is (.bool true), Is (.bool true), Is (.bool true)]) (by kernel_rfl) (specs_stb ⟨Own.stb _ _, Is.stb _, Bts.stb _, OwnC.stb _ _, Is.stb _, Is.stb _, Is.stb _, Is.stb _, Is.stb _, Is.stb _, Is.stb _, Is.stb _, Is.stb _, Is.stb _, trivial⟩) (by kernel_rfl) ?_ ?_
  · refine ⟨fun a w hB hfr hdep => Step.plain rfl (dMove (R := Own u2.heap.size (PUB ((l1).take 40))) rfl (use (hfr 3 (by kernel_rfl)) ((Own.stb _ _) _ _ _ hB ((Own.stb _ _) _ _ _ hb4 h3_3)))),
      fun a w hB hfr hdep => Step.plain rfl (dConvBts rfl (Own.bts (hdep 0 41 (by kernel_rfl)) (by first | decide | (rw [digs_len]; omega) | (rw [SEED_len]; omega) | (unfold PUB; rw [digs_len]; omega) | simp))),
      fun a w hB hfr hdep => Step.plain rfl (dMove (R := Bts ((l1).take 40)) rfl (use (hfr 0 (by kernel_rfl)) ((Bts.stb _) _ _ _ hB ((Bts.stb _) _ _ _ hb4 ((Bts.stb _) _ _ _ hb3 h8_2))))),
      fun a w hB hfr hdep => Step.plain rfl (Does.call 11 #[(a.eval (.tmp 43))] (by kernel_rfl) (ownCLo hB.size (rPublic w (hdep 2 43 (by kernel_rfl)) (Dig.take hd1 _) (by omega)))),
      fun a w hB hfr hdep => Step.plain rfl (dConvBts rfl (OwnC.bts (hdep 3 44 (by kernel_rfl)))),
      fun a w hB hfr hdep => Step.plain rfl (Does.run _ (run_eqStrB (str_refl _) rfl (hdep 1 42 (by kernel_rfl)) (hdep 4 45 (by kernel_rfl))) rfl),
      fun a w hB hfr hdep => Step.plain rfl (dMove (R := Is (.bool true)) rfl (hdep 5 46 (by kernel_rfl))),
      fun a w hB hfr hdep => Step.yes 6 47 true rfl rfl (hdep 6 47 (by kernel_rfl)) (dMove (R := Is (.int .i64 0)) rfl (hfr 4 (by kernel_rfl))),
      fun a w hB hfr hdep => Step.yes 6 47 true rfl rfl (hdep 6 47 (by kernel_rfl)) (Does.run _ (run_binO rfl (hdep 7 48 (by kernel_rfl)) rfl (by kernel_rfl)) rfl),
      fun a w hB hfr hdep => Step.plain rfl (dPickT rfl (hdep 6 47 (by kernel_rfl)) (hdep 8 49 (by kernel_rfl))),
      fun a w hB hfr hdep => Step.plain rfl (dMove (R := Is (.bool true)) rfl (hdep 9 50 (by kernel_rfl))),
      fun a w hB hfr hdep => Step.yes 10 51 true rfl rfl (hdep 10 51 (by kernel_rfl)) (Does.call 10 #[] (by kernel_rfl) (cLives w (TabA.below hT4 hB))),
      fun a w hB hfr hdep => Step.plain rfl (dPickT rfl (hdep 10 51 (by kernel_rfl)) (hdep 11 52 (by kernel_rfl))),
      fun a w hB hfr hdep => Step.plain rfl (dAssign (R := Is (.bool true)) rfl (hdep 12 53 (by kernel_rfl))), trivial⟩
  intro u5 hb5
  simp only [List.take, List.drop, FinAll, Act.put, List.setIfInBounds_toArray, List.set_cons_succ, List.set_cons_zero]
  rintro v41_5 h41_5 _ rfl v43_5 h43_5 v44_5 h44_5 _ rfl _ rfl _ rfl _ rfl _ rfl _ rfl _ rfl _ rfl _ rfl _ rfl
  have hO5 := (hO4).trans (hb5.mono (hO4).size)
  have hT5 := TabA.below hT4 hb5
  refine hK5 _ _ ?_
  clear hK5 K5
  refine wp_ret ?_
  refine bodyPost_ret (results_tmp rfl _ _ _) rfl ?_
  exact ⟨_, rfl, hO5, rfl⟩
theorem signPublicN {v1 : Value} {l1 : List Nat} (w : World) (hT : TabA w) (hv1 : Bts l1 v1 w) (hd1 : Dig l1) (h32 : ((l1).take 40).length ≠ 32) : Ret 3 #[v1] w (Is (.bool true)) := by
  obtain ⟨a1, c1, rfl⟩ := hv1.form
  unfold Ret
  go_enter Tryd.func3, Tryd.ntmps3
  go_wp2_with fail
  refine (cFew 40 w hv1 (by omega)).mono ?_
  rintro e w1 ⟨v, rfl, hB1, hM1⟩
  obtain ⟨am, cm, rfl⟩ := hM1.form
  obtain ⟨n, hn⟩ : ∃ n, n = ((l1).take 40).length := ⟨_, rfl⟩
  rw [← hn] at h32 ⊢
  clear hn hM1
  have hne : ((n : Int) ≠ 32) := by omega
  go_wp2_with fail
  refine (cPublicNo am n cm w1 h32).mono ?_
  rintro e w2 ⟨v, rfl, hB2, x1, x2, rfl, rfl, rfl⟩
  have hB02 := hB1.trans (hB2.mono hB1.size)
  go_wp2_with fail
  refine (cSignNo am n cm _ w2 h32).mono ?_
  rintro e w3 ⟨v, rfl, hB3, x1, x2, rfl, rfl, rfl⟩
  have hB03 := hB02.trans (hB3.mono hB02.size)
  go_wp2_with fail
  refine (cLives w3 (hT.below hB03)).mono ?_
  rintro e w4 ⟨v, rfl, hB4, rfl⟩
  have hB04 := hB03.trans (hB4.mono hB03.size)
  go_wp2
  go_ret
  exact ⟨_, rfl, hB04, rfl⟩
theorem signPublic {v1 : Value} {l1 : List Nat} (w : World) (hT : TabA w) (hv1 : Bts l1 v1 w) (hd1 : Dig l1) : Ret 3 #[v1] w (Is (.bool true)) := by
  by_cases h32 : ((l1).take 40).length = 32
  · exact signPublicY w hT hv1 hd1 h32
  · exact signPublicN w hT hv1 hd1 h32
end Go.Proofs.YtabgihjffjlfiaaDoor
