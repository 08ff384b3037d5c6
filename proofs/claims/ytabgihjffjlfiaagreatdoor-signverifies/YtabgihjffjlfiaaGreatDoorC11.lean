/-
  The walk of the reference's Verify. The walk of Verify. The walk of seed. The document's example, by the kernel. The walk of lives.
-/
import Derived.Test.YtabgihjffjlfiaaGreatDoorC10
set_option linter.unusedVariables false
namespace Go.Proofs.YtabgihjffjlfiaaGreatDoor
open Go.RowKit Go.Sort Go.BigFrame EN
set_option maxRecDepth 100000
set_option maxHeartbeats 2000000
theorem rVerKey {pub m sig : List Nat} {v1 v2 v3 : Value} {B0 : Pt} (hBase : ∀ w, Ret 22 #[] w (RPt B0.x B0.y)) (w : World) (hp : Bts pub v1 w) (hm : Bts m v2 w) (hs : Bts sig v3 w) (hpub : Dig pub) (hmd : Dig m) (hsig : Dig sig) (h12 : ∀ v w, Bts pub v w → Ret 25 #[v] w (Tup2 (Is (.agg #[.slice none 0 0, .slice none 0 0])) (Is (.bool false)))) : Ret 10 #[v1, v2, v3] w (Is (.int .i64 1)) := by
 unfold Ret
 have hO0 : Below w.heap.size w w := Below.refl _ _
 go_enter Tryz.func10, Tryz.ntmps10
 refine wp_seq_k fun K1 hK1 => ?_
 refine wp_plain_inv 1 (specs [Is (.int .i64 0)]) (specs_stb ⟨Is.stb _, trivial⟩) (by kernel_rfl) ?_ ?_
 ·refine ⟨fun a w hB hfr hdep => Step.plain rfl (dAssign (R := Is (.int .i64 0)) rfl rfl), trivial⟩
 intro u1 hb1
 simp only [List.take, List.drop, FinAll, Act.put, lA, lS, lZ]
 rintro _ rfl
 have hO1 := (hO0).trans (hb1.mono (hO0).size)
 refine hK1 _ _ ?_
 clear hK1 K1
 refine wp_seq_k fun K2 hK2 => ?_
 refine wp_plain_inv 6 (specs [Bts (pub), Tup2 (Is (.agg #[.slice none 0 0, .slice none 0 0])) (Is (.bool false)), Tup2 (Is (.agg #[.slice none 0 0, .slice none 0 0])) (Is (.bool false)), Is (.agg #[.slice none 0 0, .slice none 0 0]), Is (.bool false), Box u1.heap.size (#[.slice none 0 0, .slice none 0 0]) 45]) (specs_stb ⟨Bts.stb _, Tup2.stb (Is.stb _) (Is.stb _), Tup2.stb (Is.stb _) (Is.stb _), Is.stb _, Is.stb _, Box.stb _ _ _, trivial⟩) (by kernel_rfl) ?_ ?_
 ·refine ⟨fun a w hB hfr hdep => Step.plain rfl (dMove (R := Bts (pub)) rfl (use (hfr 0 (by kernel_rfl)) ((Bts.stb _) _ _ _ hB ((Bts.stb _) _ _ _ hb1 hp)))),
   fun a w hB hfr hdep => Step.plain rfl (Does.call 25 #[(a.eval (.tmp 15))] (by kernel_rfl) (h12 _ w (hdep 0 15 (by kernel_rfl)))),
   fun a w hB hfr hdep => Step.plain rfl (dMove (R := Tup2 (Is (.agg #[.slice none 0 0, .slice none 0 0])) (Is (.bool false))) rfl (hdep 1 16 (by kernel_rfl))),
   fun a w hB hfr hdep => Step.plain rfl (dExt0 rfl (hdep 2 14 (by kernel_rfl))),
   fun a w hB hfr hdep => Step.plain rfl (dExt1 rfl (hdep 2 14 (by kernel_rfl))),
   fun a w hB hfr hdep => Step.plain rfl (dAlloc35 hB.size rfl), trivial⟩
 intro u2 hb2
 simp only [List.take, List.drop, FinAll, Act.put, lA, lS, lZ]
 rintro v15_2 h15_2 v16_2 h16_2 v14_2 h14_2 _ rfl _ rfl _ ⟨g7_2, rfl, l7_2, m7_2⟩
 refine wpList_store_row rfl 45 (.tmp 7) (.tmp 17) rfl _ (#[.slice none 0 0, .slice none 0 0]) rfl rfl 45 _ m7_2 info35 rfl (by simp [Value.oneCell']) ?_
 have n7_2 := setRow_heap _ _ _ (#[.slice none 0 0, .slice none 0 0]) _ _ m7_2
 replace hb2 := setRow_below hb2 l7_2 (#[.slice none 0 0, .slice none 0 0])
 generalize hw2_1 : u2.setRow g7_2 (#[.slice none 0 0, .slice none 0 0]) = u2_1 at n7_2 hb2  ⊢
 clear hw2_1 m7_2
 refine wpList_assign rfl rfl rfl ?_
 simp only [Act.put, Act.eval, Array.getD_eq_getD_getElem?, List.getElem?_toArray, List.getElem?_cons_succ, List.getElem?_cons_zero, Option.getD_some, lA, lS, lZ]
 have hO2 := (hO1).trans (hb2.mono (hO1).size)
 have lwn7_2 := Nat.le_trans (hO1).size l7_2
 refine hK2 _ _ ?_
 clear hK2 K2
 refine wp_seq_k fun KO1 hKO1 => ?_
 refine wp_seq_k fun K3 hK3 => ?_
 refine wp_plain_inv 2 (specs [Is (.bool false), Is (.bool true)]) (specs_stb ⟨Is.stb _, Is.stb _, trivial⟩) (by kernel_rfl) ?_ ?_
 ·refine ⟨fun a w hB hfr hdep => Step.plain rfl (dMove (R := Is (.bool false)) rfl (hfr 8 (by kernel_rfl))),
   fun a w hB hfr hdep => Step.plain rfl (Does.run _ (run_notO rfl (hdep 0 19 (by kernel_rfl))) rfl), trivial⟩
 intro u3 hb3
 simp only [List.take, List.drop, FinAll, Act.put, lA, lS, lZ]
 rintro _ rfl _ rfl
 have hO3 := (hO2).trans (hb3.mono (hO2).size)
 have n7_2__3 := block_below hb3 (lt_of_heap n7_2) n7_2
 refine hK3 _ _ ?_
 clear hK3 K3
 refine wp_cond_true rfl ?_
 refine wp_seq_k fun K4 hK4 => ?_
 refine wp_plain_inv 1 (specs [Is (.int .i64 1)]) (specs_stb ⟨Is.stb _, trivial⟩) (by kernel_rfl) ?_ ?_
 ·refine ⟨fun a w hB hfr hdep => Step.plain rfl (dAssign (R := Is (.int .i64 1)) rfl rfl), trivial⟩
 intro u4 hb4
 simp only [List.take, List.drop, FinAll, Act.put, lA, lS, lZ]
 rintro _ rfl
 have hO4 := (hO3).trans (hb4.mono (hO3).size)
 have n7_2__4 := block_below hb4 (lt_of_heap n7_2__3) n7_2__3
 refine hK4 _ _ ?_
 clear hK4 K4
 refine wp_ret ?_
 simp only [Exit.then]
 refine bodyPost_ret (results_tmp rfl _ _ _) rfl ?_
 exact ⟨_, rfl, hO4, rfl⟩
theorem rVerLen {pub m sig : List Nat} {v1 v2 v3 : Value} {B0 : Pt} (hBase : ∀ w, Ret 22 #[] w (RPt B0.x B0.y)) (w : World) (hp : Bts pub v1 w) (hm : Bts m v2 w) (hs : Bts sig v3 w) (hpub : Dig pub) (hmd : Dig m) (hsig : Dig sig) {P : Pt} (hP : P.enc = valD pub) (hp32 : pub.length = 32) {n : Nat} (hsn : sig.length = n) (hn : n ≠ 64) : Ret 10 #[v1, v2, v3] w (Is (.int .i64 2)) := by
 unfold Ret
 have hO0 : Below w.heap.size w w := Below.refl _ _
 go_enter Tryz.func10, Tryz.ntmps10
 refine wp_seq_k fun K1 hK1 => ?_
 refine wp_plain_inv 1 (specs [Is (.int .i64 0)]) (specs_stb ⟨Is.stb _, trivial⟩) (by kernel_rfl) ?_ ?_
 ·refine ⟨fun a w hB hfr hdep => Step.plain rfl (dAssign (R := Is (.int .i64 0)) rfl rfl), trivial⟩
 intro u1 hb1
 simp only [List.take, List.drop, FinAll, Act.put, lA, lS, lZ]
 rintro _ rfl
 have hO1 := (hO0).trans (hb1.mono (hO0).size)
 refine hK1 _ _ ?_
 clear hK1 K1
 refine wp_seq_k fun K2 hK2 => ?_
 refine wp_plain_inv 6 (specs [Bts (pub), Tup2 (RPt ((P).x) ((P).y)) (Is (.bool true)), Tup2 (RPt ((P).x) ((P).y)) (Is (.bool true)), RPt ((P).x) ((P).y), Is (.bool true), Box u1.heap.size (#[.slice none 0 0, .slice none 0 0]) 45]) (specs_stb ⟨Bts.stb _, Tup2.stb (RPt.stb _ _) (Is.stb _), Tup2.stb (RPt.stb _ _) (Is.stb _), RPt.stb _ _, Is.stb _, Box.stb _ _ _, trivial⟩) (by kernel_rfl) ?_ ?_
 ·refine ⟨fun a w hB hfr hdep => Step.plain rfl (dMove (R := Bts (pub)) rfl (use (hfr 0 (by kernel_rfl)) ((Bts.stb _) _ _ _ hB ((Bts.stb _) _ _ _ hb1 hp)))),
   fun a w hB hfr hdep => Step.plain rfl (Does.call 25 #[(a.eval (.tmp 15))] (by kernel_rfl) (rReadPt w (hdep 0 15 (by kernel_rfl)) hp32 hpub hP)),
   fun a w hB hfr hdep => Step.plain rfl (dMove (R := Tup2 (RPt ((P).x) ((P).y)) (Is (.bool true))) rfl (hdep 1 16 (by kernel_rfl))),
   fun a w hB hfr hdep => Step.plain rfl (dExt0 rfl (hdep 2 14 (by kernel_rfl))),
   fun a w hB hfr hdep => Step.plain rfl (dExt1 rfl (hdep 2 14 (by kernel_rfl))),
   fun a w hB hfr hdep => Step.plain rfl (dAlloc35 hB.size rfl), trivial⟩
 intro u2 hb2
 simp only [List.take, List.drop, FinAll, Act.put, lA, lS, lZ]
 rintro v15_2 h15_2 v16_2 h16_2 v14_2 h14_2 _ ⟨p17_2, q17_2, rfl, x17_2, y17_2⟩ _ rfl _ ⟨g7_2, rfl, l7_2, m7_2⟩
 refine wpList_store_row rfl 45 (.tmp 7) (.tmp 17) rfl _ (#[p17_2, q17_2]) rfl rfl 45 _ m7_2 info35 rfl (rpt_one x17_2 y17_2) ?_
 have n7_2 := setRow_heap _ _ _ (#[p17_2, q17_2]) _ _ m7_2
 replace hb2 := setRow_below hb2 l7_2 (#[p17_2, q17_2])
 replace x17_2 := Rw.setRow x17_2 m7_2 nz35 (#[p17_2, q17_2])
 replace y17_2 := Rw.setRow y17_2 m7_2 nz35 (#[p17_2, q17_2])
 generalize hw2_1 : u2.setRow g7_2 (#[p17_2, q17_2]) = u2_1 at n7_2 hb2 x17_2 y17_2  ⊢
 clear hw2_1 m7_2
 refine wpList_assign rfl rfl rfl ?_
 simp only [Act.put, Act.eval, Array.getD_eq_getD_getElem?, List.getElem?_toArray, List.getElem?_cons_succ, List.getElem?_cons_zero, Option.getD_some, lA, lS, lZ]
 have hO2 := (hO1).trans (hb2.mono (hO1).size)
 have lwn7_2 := Nat.le_trans (hO1).size l7_2
 refine hK2 _ _ ?_
 clear hK2 K2
 refine wp_seq_k fun KO1 hKO1 => ?_
 refine wp_seq_k fun K3 hK3 => ?_
 refine wp_plain_inv 2 (specs [Is (.bool true), Is (.bool false)]) (specs_stb ⟨Is.stb _, Is.stb _, trivial⟩) (by kernel_rfl) ?_ ?_
 ·refine ⟨fun a w hB hfr hdep => Step.plain rfl (dMove (R := Is (.bool true)) rfl (hfr 8 (by kernel_rfl))),
   fun a w hB hfr hdep => Step.plain rfl (Does.run _ (run_notO rfl (hdep 0 19 (by kernel_rfl))) rfl), trivial⟩
 intro u3 hb3
 simp only [List.take, List.drop, FinAll, Act.put, lA, lS, lZ]
 rintro _ rfl _ rfl
 have hO3 := (hO2).trans (hb3.mono (hO2).size)
 have n7_2__3 := block_below hb3 (lt_of_heap n7_2) n7_2
 refine hK3 _ _ ?_
 clear hK3 K3
 refine wp_cond_false rfl ?_
 refine wp_skip ?_
 refine hKO1 _ _ ?_
 clear hKO1 KO1
 refine wp_seq_k fun KO2 hKO2 => ?_
 refine wp_seq_k fun K4 hK4 => ?_
 refine wp_plain_inv 3 (specs [Bts (sig), Is (.int .i64 (n : Int)), Is (.bool true)]) (specs_stb ⟨Bts.stb _, Is.stb _, Is.stb _, trivial⟩) (by kernel_rfl) ?_ ?_
 ·refine ⟨fun a w hB hfr hdep => Step.plain rfl (dMove (R := Bts (sig)) rfl (use (hfr 2 (by kernel_rfl)) ((Bts.stb _) _ _ _ hB ((Bts.stb _) _ _ _ hb3 ((Bts.stb _) _ _ _ hb2 ((Bts.stb _) _ _ _ hb1 hs)))))),
   fun a w hB hfr hdep => Step.plain rfl (dLenB hsn rfl (hdep 0 21 (by kernel_rfl))),
   fun a w hB hfr hdep => Step.plain rfl (Does.run _ (run_neqN (n := n) (k := 64) hn rfl (hdep 1 22 (by kernel_rfl)) rfl) rfl), trivial⟩
 intro u4 hb4
 simp only [List.take, List.drop, FinAll, Act.put, lA, lS, lZ]
 rintro v21_4 h21_4 _ rfl _ rfl
 have hO4 := (hO3).trans (hb4.mono (hO3).size)
 have n7_2__4 := block_below hb4 (lt_of_heap n7_2__3) n7_2__3
 refine hK4 _ _ ?_
 clear hK4 K4
 refine wp_cond_true rfl ?_
 refine wp_seq_k fun K5 hK5 => ?_
 refine wp_plain_inv 1 (specs [Is (.int .i64 2)]) (specs_stb ⟨Is.stb _, trivial⟩) (by kernel_rfl) ?_ ?_
 ·refine ⟨fun a w hB hfr hdep => Step.plain rfl (dAssign (R := Is (.int .i64 2)) rfl rfl), trivial⟩
 intro u5 hb5
 simp only [List.take, List.drop, FinAll, Act.put, lA, lS, lZ]
 rintro _ rfl
 have hO5 := (hO4).trans (hb5.mono (hO4).size)
 have n7_2__5 := block_below hb5 (lt_of_heap n7_2__4) n7_2__4
 refine hK5 _ _ ?_
 clear hK5 K5
 refine wp_ret ?_
 simp only [Exit.then]
 refine bodyPost_ret (results_tmp rfl _ _ _) rfl ?_
 exact ⟨_, rfl, hO5, rfl⟩
theorem rVerIs {pub m sig : List Nat} {v1 v2 v3 : Value} {B0 : Pt} (hBase : ∀ w, Ret 22 #[] w (RPt B0.x B0.y)) (w : World) (hp : Bts pub v1 w) (hm : Bts m v2 w) (hs : Bts sig v3 w) (hpub : Dig pub) (hmd : Dig m) (hsig : Dig sig) {P : Pt} (hP : P.enc = valD pub) (hp32 : pub.length = 32) (hs64 : sig.length = 64) (hIs : isL ((sig).drop 32) = false) : Ret 10 #[v1, v2, v3] w (Is (.int .i64 2)) := by
 unfold Ret
 have hO0 : Below w.heap.size w w := Below.refl _ _
 go_enter Tryz.func10, Tryz.ntmps10
 refine wp_seq_k fun K1 hK1 => ?_
 refine wp_plain_inv 1 (specs [Is (.int .i64 0)]) (specs_stb ⟨Is.stb _, trivial⟩) (by kernel_rfl) ?_ ?_
 ·refine ⟨fun a w hB hfr hdep => Step.plain rfl (dAssign (R := Is (.int .i64 0)) rfl rfl), trivial⟩
 intro u1 hb1
 simp only [List.take, List.drop, FinAll, Act.put, lA, lS, lZ]
 rintro _ rfl
 have hO1 := (hO0).trans (hb1.mono (hO0).size)
 refine hK1 _ _ ?_
 clear hK1 K1
 refine wp_seq_k fun K2 hK2 => ?_
 refine wp_plain_inv 6 (specs [Bts (pub), Tup2 (RPt ((P).x) ((P).y)) (Is (.bool true)), Tup2 (RPt ((P).x) ((P).y)) (Is (.bool true)), RPt ((P).x) ((P).y), Is (.bool true), Box u1.heap.size (#[.slice none 0 0, .slice none 0 0]) 45]) (specs_stb ⟨Bts.stb _, Tup2.stb (RPt.stb _ _) (Is.stb _), Tup2.stb (RPt.stb _ _) (Is.stb _), RPt.stb _ _, Is.stb _, Box.stb _ _ _, trivial⟩) (by kernel_rfl) ?_ ?_
 ·refine ⟨fun a w hB hfr hdep => Step.plain rfl (dMove (R := Bts (pub)) rfl (use (hfr 0 (by kernel_rfl)) ((Bts.stb _) _ _ _ hB ((Bts.stb _) _ _ _ hb1 hp)))),
   fun a w hB hfr hdep => Step.plain rfl (Does.call 25 #[(a.eval (.tmp 15))] (by kernel_rfl) (rReadPt w (hdep 0 15 (by kernel_rfl)) hp32 hpub hP)),
   fun a w hB hfr hdep => Step.plain rfl (dMove (R := Tup2 (RPt ((P).x) ((P).y)) (Is (.bool true))) rfl (hdep 1 16 (by kernel_rfl))),
   fun a w hB hfr hdep => Step.plain rfl (dExt0 rfl (hdep 2 14 (by kernel_rfl))),
   fun a w hB hfr hdep => Step.plain rfl (dExt1 rfl (hdep 2 14 (by kernel_rfl))),
   fun a w hB hfr hdep => Step.plain rfl (dAlloc35 hB.size rfl), trivial⟩
 intro u2 hb2
 simp only [List.take, List.drop, FinAll, Act.put, lA, lS, lZ]
 rintro v15_2 h15_2 v16_2 h16_2 v14_2 h14_2 _ ⟨p17_2, q17_2, rfl, x17_2, y17_2⟩ _ rfl _ ⟨g7_2, rfl, l7_2, m7_2⟩
 refine wpList_store_row rfl 45 (.tmp 7) (.tmp 17) rfl _ (#[p17_2, q17_2]) rfl rfl 45 _ m7_2 info35 rfl (rpt_one x17_2 y17_2) ?_
 have n7_2 := setRow_heap _ _ _ (#[p17_2, q17_2]) _ _ m7_2
 replace hb2 := setRow_below hb2 l7_2 (#[p17_2, q17_2])
 replace x17_2 := Rw.setRow x17_2 m7_2 nz35 (#[p17_2, q17_2])
 replace y17_2 := Rw.setRow y17_2 m7_2 nz35 (#[p17_2, q17_2])
 generalize hw2_1 : u2.setRow g7_2 (#[p17_2, q17_2]) = u2_1 at n7_2 hb2 x17_2 y17_2  ⊢
 clear hw2_1 m7_2
 refine wpList_assign rfl rfl rfl ?_
 simp only [Act.put, Act.eval, Array.getD_eq_getD_getElem?, List.getElem?_toArray, List.getElem?_cons_succ, List.getElem?_cons_zero, Option.getD_some, lA, lS, lZ]
 have hO2 := (hO1).trans (hb2.mono (hO1).size)
 have lwn7_2 := Nat.le_trans (hO1).size l7_2
 refine hK2 _ _ ?_
 clear hK2 K2
 refine wp_seq_k fun KO1 hKO1 => ?_
 refine wp_seq_k fun K3 hK3 => ?_
 refine wp_plain_inv 2 (specs [Is (.bool true), Is (.bool false)]) (specs_stb ⟨Is.stb _, Is.stb _, trivial⟩) (by kernel_rfl) ?_ ?_
 ·refine ⟨fun a w hB hfr hdep => Step.plain rfl (dMove (R := Is (.bool true)) rfl (hfr 8 (by kernel_rfl))),
   fun a w hB hfr hdep => Step.plain rfl (Does.run _ (run_notO rfl (hdep 0 19 (by kernel_rfl))) rfl), trivial⟩
 intro u3 hb3
 simp only [List.take, List.drop, FinAll, Act.put, lA, lS, lZ]
 rintro _ rfl _ rfl
 have hO3 := (hO2).trans (hb3.mono (hO2).size)
 have n7_2__3 := block_below hb3 (lt_of_heap n7_2) n7_2
 refine hK3 _ _ ?_
 clear hK3 K3
 refine wp_cond_false rfl ?_
 refine wp_skip ?_
 refine hKO1 _ _ ?_
 clear hKO1 KO1
 refine wp_seq_k fun KO2 hKO2 => ?_
 refine wp_seq_k fun K4 hK4 => ?_
 refine wp_plain_inv 3 (specs [Bts (sig), Is (.int .i64 64), Is (.bool false)]) (specs_stb ⟨Bts.stb _, Is.stb _, Is.stb _, trivial⟩) (by kernel_rfl) ?_ ?_
 ·refine ⟨fun a w hB hfr hdep => Step.plain rfl (dMove (R := Bts (sig)) rfl (use (hfr 2 (by kernel_rfl)) ((Bts.stb _) _ _ _ hB ((Bts.stb _) _ _ _ hb3 ((Bts.stb _) _ _ _ hb2 ((Bts.stb _) _ _ _ hb1 hs)))))),
   fun a w hB hfr hdep => Step.plain rfl (dLenB hs64 rfl (hdep 0 21 (by kernel_rfl))),
   fun a w hB hfr hdep => Step.plain rfl (Does.run _ (run_binO rfl (hdep 1 22 (by kernel_rfl)) rfl (by kernel_rfl)) rfl), trivial⟩
 intro u4 hb4
 simp only [List.take, List.drop, FinAll, Act.put, lA, lS, lZ]
 rintro v21_4 h21_4 _ rfl _ rfl
 have hO4 := (hO3).trans (hb4.mono (hO3).size)
 have n7_2__4 := block_below hb4 (lt_of_heap n7_2__3) n7_2__3
 refine hK4 _ _ ?_
 clear hK4 K4
 refine wp_cond_false rfl ?_
 refine wp_skip ?_
 refine hKO2 _ _ ?_
 clear hKO2 KO2
 refine wp_seq_k fun K5 hK5 => ?_
 refine wp_plain_inv 4 (specs [Bts (sig), Bts ((sig).drop 32), Is (.bool false), Is (.bool false)]) (specs_stb ⟨Bts.stb _, Bts.stb _, Is.stb _, Is.stb _, trivial⟩) (by kernel_rfl) ?_ ?_
 ·refine ⟨fun a w hB hfr hdep => Step.plain rfl (dMove (R := Bts (sig)) rfl (use (hfr 2 (by kernel_rfl)) ((Bts.stb _) _ _ _ hB ((Bts.stb _) _ _ _ hb4 ((Bts.stb _) _ _ _ hb3 ((Bts.stb _) _ _ _ hb2 ((Bts.stb _) _ _ _ hb1 hs))))))),
   fun a w hB hfr hdep => Step.plain rfl (dDrop32 hs64 rfl (hdep 0 24 (by kernel_rfl)) rfl),
   fun a w hB hfr hdep => Step.plain rfl (Does.call 26 #[(a.eval (.tmp 25))] (by kernel_rfl) (rIsB hIs w (hdep 1 25 (by kernel_rfl)) (Dig.drop hsig _) (by rw [List.length_drop]; omega))),
   fun a w hB hfr hdep => Step.plain rfl (dAssign (R := Is (.bool false)) rfl (hdep 2 26 (by kernel_rfl))), trivial⟩
 intro u5 hb5
 simp only [List.take, List.drop, FinAll, Act.put, lA, lS, lZ]
 rintro v24_5 h24_5 v25_5 h25_5 _ rfl _ rfl
 have hO5 := (hO4).trans (hb5.mono (hO4).size)
 have n7_2__5 := block_below hb5 (lt_of_heap n7_2__4) n7_2__4
 refine hK5 _ _ ?_
 clear hK5 K5
 refine wp_seq_k fun KO3 hKO3 => ?_
 refine wp_seq_k fun K6 hK6 => ?_
 refine wp_plain_inv 2 (specs [Is (.bool false), Is (.bool true)]) (specs_stb ⟨Is.stb _, Is.stb _, trivial⟩) (by kernel_rfl) ?_ ?_
 ·refine ⟨fun a w hB hfr hdep => Step.plain rfl (dMove (R := Is (.bool false)) rfl (hfr 9 (by kernel_rfl))),
   fun a w hB hfr hdep => Step.plain rfl (Does.run _ (run_notO rfl (hdep 0 27 (by kernel_rfl))) rfl), trivial⟩
 intro u6 hb6
 simp only [List.take, List.drop, FinAll, Act.put, lA, lS, lZ]
 rintro _ rfl _ rfl
 have hO6 := (hO5).trans (hb6.mono (hO5).size)
 have n7_2__6 := block_below hb6 (lt_of_heap n7_2__5) n7_2__5
 refine hK6 _ _ ?_
 clear hK6 K6
 refine wp_cond_true rfl ?_
 refine wp_seq_k fun K7 hK7 => ?_
 refine wp_plain_inv 1 (specs [Is (.int .i64 2)]) (specs_stb ⟨Is.stb _, trivial⟩) (by kernel_rfl) ?_ ?_
 ·refine ⟨fun a w hB hfr hdep => Step.plain rfl (dAssign (R := Is (.int .i64 2)) rfl rfl), trivial⟩
 intro u7 hb7
 simp only [List.take, List.drop, FinAll, Act.put, lA, lS, lZ]
 rintro _ rfl
 have hO7 := (hO6).trans (hb7.mono (hO6).size)
 have n7_2__7 := block_below hb7 (lt_of_heap n7_2__6) n7_2__6
 refine hK7 _ _ ?_
 clear hK7 K7
 refine wp_ret ?_
 simp only [Exit.then]
 refine bodyPost_ret (results_tmp rfl _ _ _) rfl ?_
 exact ⟨_, rfl, hO7, rfl⟩
theorem rVerNo {pub m sig : List Nat} {v1 v2 v3 : Value} {B0 : Pt} (hBase : ∀ w, Ret 22 #[] w (RPt B0.x B0.y)) (w : World) (hp : Bts pub v1 w) (hm : Bts m v2 w) (hs : Bts sig v3 w) (hpub : Dig pub) (hmd : Dig m) (hsig : Dig sig) {P : Pt} (hP : P.enc = valD pub) (hp32 : pub.length = 32) (hs64 : sig.length = 64) (hml : m.length ≤ 50000) (hIs : isL ((sig).drop 32) = true) (hE : ((strOf (digs 32 (Pt.enc ((B0.nm (valD ((sig).drop 32))).add (((P).neg).nm (valD (digs 32 (numL ((sig).take 32 ++ pub ++ m))))))))).toList == (strOf ((sig).take 32)).toList) = !true) : Ret 10 #[v1, v2, v3] w (Is (.int .i64 2)) := by
 unfold Ret
 have hO0 : Below w.heap.size w w := Below.refl _ _
 go_enter Tryz.func10, Tryz.ntmps10
 refine wp_seq_k fun K1 hK1 => ?_
 refine wp_plain_inv 1 (specs [Is (.int .i64 0)]) (specs_stb ⟨Is.stb _, trivial⟩) (by kernel_rfl) ?_ ?_
 ·refine ⟨fun a w hB hfr hdep => Step.plain rfl (dAssign (R := Is (.int .i64 0)) rfl rfl), trivial⟩
 intro u1 hb1
 simp only [List.take, List.drop, FinAll, Act.put, lA, lS, lZ]
 rintro _ rfl
 have hO1 := (hO0).trans (hb1.mono (hO0).size)
 refine hK1 _ _ ?_
 clear hK1 K1
 refine wp_seq_k fun K2 hK2 => ?_
 refine wp_plain_inv 6 (specs [Bts (pub), Tup2 (RPt ((P).x) ((P).y)) (Is (.bool true)), Tup2 (RPt ((P).x) ((P).y)) (Is (.bool true)), RPt ((P).x) ((P).y), Is (.bool true), Box u1.heap.size (#[.slice none 0 0, .slice none 0 0]) 45]) (specs_stb ⟨Bts.stb _, Tup2.stb (RPt.stb _ _) (Is.stb _), Tup2.stb (RPt.stb _ _) (Is.stb _), RPt.stb _ _, Is.stb _, Box.stb _ _ _, trivial⟩) (by kernel_rfl) ?_ ?_
 ·refine ⟨fun a w hB hfr hdep => Step.plain rfl (dMove (R := Bts (pub)) rfl (use (hfr 0 (by kernel_rfl)) ((Bts.stb _) _ _ _ hB ((Bts.stb _) _ _ _ hb1 hp)))),
   fun a w hB hfr hdep => Step.plain rfl (Does.call 25 #[(a.eval (.tmp 15))] (by kernel_rfl) (rReadPt w (hdep 0 15 (by kernel_rfl)) hp32 hpub hP)),
   fun a w hB hfr hdep => Step.plain rfl (dMove (R := Tup2 (RPt ((P).x) ((P).y)) (Is (.bool true))) rfl (hdep 1 16 (by kernel_rfl))),
   fun a w hB hfr hdep => Step.plain rfl (dExt0 rfl (hdep 2 14 (by kernel_rfl))),
   fun a w hB hfr hdep => Step.plain rfl (dExt1 rfl (hdep 2 14 (by kernel_rfl))),
   fun a w hB hfr hdep => Step.plain rfl (dAlloc35 hB.size rfl), trivial⟩
 intro u2 hb2
 simp only [List.take, List.drop, FinAll, Act.put, lA, lS, lZ]
 rintro v15_2 h15_2 v16_2 h16_2 v14_2 h14_2 _ ⟨p17_2, q17_2, rfl, x17_2, y17_2⟩ _ rfl _ ⟨g7_2, rfl, l7_2, m7_2⟩
 refine wpList_store_row rfl 45 (.tmp 7) (.tmp 17) rfl _ (#[p17_2, q17_2]) rfl rfl 45 _ m7_2 info35 rfl (rpt_one x17_2 y17_2) ?_
 have n7_2 := setRow_heap _ _ _ (#[p17_2, q17_2]) _ _ m7_2
 replace hb2 := setRow_below hb2 l7_2 (#[p17_2, q17_2])
 replace x17_2 := Rw.setRow x17_2 m7_2 nz35 (#[p17_2, q17_2])
 replace y17_2 := Rw.setRow y17_2 m7_2 nz35 (#[p17_2, q17_2])
 generalize hw2_1 : u2.setRow g7_2 (#[p17_2, q17_2]) = u2_1 at n7_2 hb2 x17_2 y17_2  ⊢
 clear hw2_1 m7_2
 refine wpList_assign rfl rfl rfl ?_
 simp only [Act.put, Act.eval, Array.getD_eq_getD_getElem?, List.getElem?_toArray, List.getElem?_cons_succ, List.getElem?_cons_zero, Option.getD_some, lA, lS, lZ]
 have hO2 := (hO1).trans (hb2.mono (hO1).size)
 have lwn7_2 := Nat.le_trans (hO1).size l7_2
 refine hK2 _ _ ?_
 clear hK2 K2
 refine wp_seq_k fun KO1 hKO1 => ?_
 refine wp_seq_k fun K3 hK3 => ?_
 refine wp_plain_inv 2 (specs [Is (.bool true), Is (.bool false)]) (specs_stb ⟨Is.stb _, Is.stb _, trivial⟩) (by kernel_rfl) ?_ ?_
 ·refine ⟨fun a w hB hfr hdep => Step.plain rfl (dMove (R := Is (.bool true)) rfl (hfr 8 (by kernel_rfl))),
   fun a w hB hfr hdep => Step.plain rfl (Does.run _ (run_notO rfl (hdep 0 19 (by kernel_rfl))) rfl), trivial⟩
 intro u3 hb3
 simp only [List.take, List.drop, FinAll, Act.put, lA, lS, lZ]
 rintro _ rfl _ rfl
 have hO3 := (hO2).trans (hb3.mono (hO2).size)
 have n7_2__3 := block_below hb3 (lt_of_heap n7_2) n7_2
 refine hK3 _ _ ?_
 clear hK3 K3
 refine wp_cond_false rfl ?_
 refine wp_skip ?_
 refine hKO1 _ _ ?_
 clear hKO1 KO1
 refine wp_seq_k fun KO2 hKO2 => ?_
 refine wp_seq_k fun K4 hK4 => ?_
 refine wp_plain_inv 3 (specs [Bts (sig), Is (.int .i64 64), Is (.bool false)]) (specs_stb ⟨Bts.stb _, Is.stb _, Is.stb _, trivial⟩) (by kernel_rfl) ?_ ?_
 ·refine ⟨fun a w hB hfr hdep => Step.plain rfl (dMove (R := Bts (sig)) rfl (use (hfr 2 (by kernel_rfl)) ((Bts.stb _) _ _ _ hB ((Bts.stb _) _ _ _ hb3 ((Bts.stb _) _ _ _ hb2 ((Bts.stb _) _ _ _ hb1 hs)))))),
   fun a w hB hfr hdep => Step.plain rfl (dLenB hs64 rfl (hdep 0 21 (by kernel_rfl))),
   fun a w hB hfr hdep => Step.plain rfl (Does.run _ (run_binO rfl (hdep 1 22 (by kernel_rfl)) rfl (by kernel_rfl)) rfl), trivial⟩
 intro u4 hb4
 simp only [List.take, List.drop, FinAll, Act.put, lA, lS, lZ]
 rintro v21_4 h21_4 _ rfl _ rfl
 have hO4 := (hO3).trans (hb4.mono (hO3).size)
 have n7_2__4 := block_below hb4 (lt_of_heap n7_2__3) n7_2__3
 refine hK4 _ _ ?_
 clear hK4 K4
 refine wp_cond_false rfl ?_
 refine wp_skip ?_
 refine hKO2 _ _ ?_
 clear hKO2 KO2
 refine wp_seq_k fun K5 hK5 => ?_
 refine wp_plain_inv 4 (specs [Bts (sig), Bts ((sig).drop 32), Is (.bool true), Is (.bool true)]) (specs_stb ⟨Bts.stb _, Bts.stb _, Is.stb _, Is.stb _, trivial⟩) (by kernel_rfl) ?_ ?_
 ·refine ⟨fun a w hB hfr hdep => Step.plain rfl (dMove (R := Bts (sig)) rfl (use (hfr 2 (by kernel_rfl)) ((Bts.stb _) _ _ _ hB ((Bts.stb _) _ _ _ hb4 ((Bts.stb _) _ _ _ hb3 ((Bts.stb _) _ _ _ hb2 ((Bts.stb _) _ _ _ hb1 hs))))))),
   fun a w hB hfr hdep => Step.plain rfl (dDrop32 hs64 rfl (hdep 0 24 (by kernel_rfl)) rfl),
   fun a w hB hfr hdep => Step.plain rfl (Does.call 26 #[(a.eval (.tmp 25))] (by kernel_rfl) (rIsB hIs w (hdep 1 25 (by kernel_rfl)) (Dig.drop hsig _) (by rw [List.length_drop]; omega))),
   fun a w hB hfr hdep => Step.plain rfl (dAssign (R := Is (.bool true)) rfl (hdep 2 26 (by kernel_rfl))), trivial⟩
 intro u5 hb5
 simp only [List.take, List.drop, FinAll, Act.put, lA, lS, lZ]
 rintro v24_5 h24_5 v25_5 h25_5 _ rfl _ rfl
 have hO5 := (hO4).trans (hb5.mono (hO4).size)
 have n7_2__5 := block_below hb5 (lt_of_heap n7_2__4) n7_2__4
 refine hK5 _ _ ?_
 clear hK5 K5
 refine wp_seq_k fun KO3 hKO3 => ?_
 refine wp_seq_k fun K6 hK6 => ?_
 refine wp_plain_inv 2 (specs [Is (.bool true), Is (.bool false)]) (specs_stb ⟨Is.stb _, Is.stb _, trivial⟩) (by kernel_rfl) ?_ ?_
 ·refine ⟨fun a w hB hfr hdep => Step.plain rfl (dMove (R := Is (.bool true)) rfl (hfr 9 (by kernel_rfl))),
   fun a w hB hfr hdep => Step.plain rfl (Does.run _ (run_notO rfl (hdep 0 27 (by kernel_rfl))) rfl), trivial⟩
 intro u6 hb6
 simp only [List.take, List.drop, FinAll, Act.put, lA, lS, lZ]
 rintro _ rfl _ rfl
 have hO6 := (hO5).trans (hb6.mono (hO5).size)
 have n7_2__6 := block_below hb6 (lt_of_heap n7_2__5) n7_2__5
 refine hK6 _ _ ?_
 clear hK6 K6
 refine wp_cond_false rfl ?_
 refine wp_skip ?_
 refine hKO3 _ _ ?_
 clear hKO3 KO3
 refine wp_seq_k fun K7 hK7 => ?_
 refine wp_plain_inv 6 (specs [Bts (sig), Bts ((sig).take 32), Bts (pub), Bts (m), Bts (digs 32 (numL ((sig).take 32 ++ pub ++ m))), Bts (digs 32 (numL ((sig).take 32 ++ pub ++ m)))]) (specs_stb ⟨Bts.stb _, Bts.stb _, Bts.stb _, Bts.stb _, Bts.stb _, Bts.stb _, trivial⟩) (by kernel_rfl) ?_ ?_
 ·refine ⟨fun a w hB hfr hdep => Step.plain rfl (dMove (R := Bts (sig)) rfl (use (hfr 2 (by kernel_rfl)) ((Bts.stb _) _ _ _ hB ((Bts.stb _) _ _ _ hb6 ((Bts.stb _) _ _ _ hb5 ((Bts.stb _) _ _ _ hb4 ((Bts.stb _) _ _ _ hb3 ((Bts.stb _) _ _ _ hb2 ((Bts.stb _) _ _ _ hb1 hs))))))))),
   fun a w hB hfr hdep => Step.plain rfl (dTake32 hs64 rfl (hdep 0 29 (by kernel_rfl)) rfl),
   fun a w hB hfr hdep => Step.plain rfl (dMove (R := Bts (pub)) rfl (use (hfr 0 (by kernel_rfl)) ((Bts.stb _) _ _ _ hB ((Bts.stb _) _ _ _ hb6 ((Bts.stb _) _ _ _ hb5 ((Bts.stb _) _ _ _ hb4 ((Bts.stb _) _ _ _ hb3 ((Bts.stb _) _ _ _ hb2 ((Bts.stb _) _ _ _ hb1 hp))))))))),
   fun a w hB hfr hdep => Step.plain rfl (dMove (R := Bts (m)) rfl (use (hfr 1 (by kernel_rfl)) ((Bts.stb _) _ _ _ hB ((Bts.stb _) _ _ _ hb6 ((Bts.stb _) _ _ _ hb5 ((Bts.stb _) _ _ _ hb4 ((Bts.stb _) _ _ _ hb3 ((Bts.stb _) _ _ _ hb2 ((Bts.stb _) _ _ _ hb1 hm))))))))),
   fun a w hB hfr hdep => Step.plain rfl (Does.call 19 #[(a.eval (.tmp 30)), (a.eval (.tmp 31)), (a.eval (.tmp 32))] (by kernel_rfl) (rHash w (hdep 1 30 (by kernel_rfl)) (hdep 2 31 (by kernel_rfl)) (hdep 3 32 (by kernel_rfl)) (Dig.take hsig _) hpub hmd (by rw [List.length_take]; omega) (by rw [List.length_take]; omega))),
   fun a w hB hfr hdep => Step.plain rfl (dAssign (R := Bts (digs 32 (numL ((sig).take 32 ++ pub ++ m)))) rfl (hdep 4 33 (by kernel_rfl))), trivial⟩
 intro u7 hb7
 simp only [List.take, List.drop, FinAll, Act.put, lA, lS, lZ]
 rintro v29_7 h29_7 v30_7 h30_7 v31_7 h31_7 v32_7 h32_7 v33_7 h33_7 v10_7 h10_7
 have hO7 := (hO6).trans (hb7.mono (hO6).size)
 have n7_2__7 := block_below hb7 (lt_of_heap n7_2__6) n7_2__6
 refine hK7 _ _ ?_
 clear hK7 K7
 refine wp_seq_k fun K8 hK8 => ?_
 refine wp_region_inv 5 (specs [RPt ((B0).x) ((B0).y), Bts (sig), Bts ((sig).drop 32), RPt (((B0).nm (valD ((sig).drop 32))).x) (((B0).nm (valD ((sig).drop 32))).y), Box u7.heap.size (#[.slice none 0 0, .slice none 0 0]) 45]) (by kernel_rfl) (specs_stb ⟨RPt.stb _ _, Bts.stb _, Bts.stb _, RPt.stb _ _, Box.stb _ _ _, trivial⟩) (by kernel_rfl) ?_ ?_
 ·refine ⟨fun a w hB hfr hdep => Step.plain rfl (Does.call 22 #[] (by kernel_rfl) (hBase w)),
   fun a w hB hfr hdep => Step.plain rfl (dMove (R := Bts (sig)) rfl (use (hfr 2 (by kernel_rfl)) ((Bts.stb _) _ _ _ hB ((Bts.stb _) _ _ _ hb7 ((Bts.stb _) _ _ _ hb6 ((Bts.stb _) _ _ _ hb5 ((Bts.stb _) _ _ _ hb4 ((Bts.stb _) _ _ _ hb3 ((Bts.stb _) _ _ _ hb2 ((Bts.stb _) _ _ _ hb1 hs)))))))))),
   fun a w hB hfr hdep => Step.plain rfl (dDrop32 hs64 rfl (hdep 1 35 (by kernel_rfl)) rfl),
   fun a w hB hfr hdep => Step.plain rfl (Does.call 21 #[(a.eval (.tmp 34)), (a.eval (.tmp 36))] (by kernel_rfl) (rMulPt (P := B0) w (hdep 0 34 (by kernel_rfl)) (hdep 2 36 (by kernel_rfl)) (Dig.drop hsig _) (by rw [List.length_drop]; omega))),
   fun a w hB hfr hdep => Step.plain rfl (dAlloc35 hB.size rfl), trivial⟩
 intro u8 hb8
 simp only [List.take, List.drop, FinAll, Act.put, lA, lS, lZ]
 rintro v34_8 h34_8 v35_8 h35_8 v36_8 h36_8 _ ⟨p37_8, q37_8, rfl, x37_8, y37_8⟩ _ ⟨g11_8, rfl, l11_8, m11_8⟩
 refine wpList_store_row rfl 45 (.tmp 11) (.tmp 37) rfl _ (#[p37_8, q37_8]) rfl rfl 45 _ m11_8 info35 rfl (rpt_one x37_8 y37_8) ?_
 have n11_8 := setRow_heap _ _ _ (#[p37_8, q37_8]) _ _ m11_8
 replace hb8 := setRow_below hb8 l11_8 (#[p37_8, q37_8])
 replace x37_8 := Rw.setRow x37_8 m11_8 nz35 (#[p37_8, q37_8])
 replace y37_8 := Rw.setRow y37_8 m11_8 nz35 (#[p37_8, q37_8])
 generalize hw8_1 : u8.setRow g11_8 (#[p37_8, q37_8]) = u8_1 at n11_8 hb8 x37_8 y37_8  ⊢
 clear hw8_1 m11_8
 have hO8 := (hO7).trans (hb8.mono (hO7).size)
 have n7_2__8 := block_below hb8 (lt_of_heap n7_2__7) n7_2__7
 have lwn11_8 := Nat.le_trans (hO7).size l11_8
 refine hK8 _ _ ?_
 clear hK8 K8
 refine wp_seq_k fun K9 hK9 => ?_
 refine wp_region_inv 8 (specs [Rw (0), Is (.pointer (some ⟨g7_2, 0, none⟩)), Rw ((P).x), Rw ((0) - (P.x)), Is (.pointer (some ⟨g7_2, 1, none⟩)), Rw ((P).y), RPt ((0) - (P.x)) ((P).y), Box u8_1.heap.size (#[.slice none 0 0, .slice none 0 0]) 45]) (by kernel_rfl) (specs_stb ⟨Rw.stb _, Is.stb _, Rw.stb _, Rw.stb _, Is.stb _, Rw.stb _, RPt.stb _ _, Box.stb _ _ _, trivial⟩) (by kernel_rfl) ?_ ?_
 ·refine ⟨fun a w hB hfr hdep => Step.plain rfl (Does.call 28 #[.int .i64 0] (by kernel_rfl) (rInt w 0 (by decide))),
   fun a w hB hfr hdep => Step.plain rfl (dFa35 g7_2 0 (by decide) rfl (hfr 7 (by kernel_rfl))),
   fun a w hB hfr hdep => Step.plain rfl (dLoadR0 (Rw.stb _ _ _ _ hb8 (Rw.stb _ _ _ _ hb7 (Rw.stb _ _ _ _ hb6 (Rw.stb _ _ _ _ hb5 (Rw.stb _ _ _ _ hb4 (Rw.stb _ _ _ _ hb3 x17_2)))))) hB (Rw.stb _ _ _ _ hb8 (Rw.stb _ _ _ _ hb7 (Rw.stb _ _ _ _ hb6 (Rw.stb _ _ _ _ hb5 (Rw.stb _ _ _ _ hb4 (Rw.stb _ _ _ _ hb3 y17_2)))))) (block_below hB (lt_of_heap n7_2__8) n7_2__8) rfl (hdep 1 39 (by kernel_rfl))),
   fun a w hB hfr hdep => Step.plain rfl (Does.call 27 #[(a.eval (.tmp 38)), (a.eval (.tmp 40))] (by kernel_rfl) (rSub (x := 0) (y := P.x) w (hdep 0 38 (by kernel_rfl)) (hdep 2 40 (by kernel_rfl)))),
   fun a w hB hfr hdep => Step.plain rfl (dFa35 g7_2 1 (by decide) rfl (hfr 7 (by kernel_rfl))),
   fun a w hB hfr hdep => Step.plain rfl (dLoadR1 (Rw.stb _ _ _ _ hb8 (Rw.stb _ _ _ _ hb7 (Rw.stb _ _ _ _ hb6 (Rw.stb _ _ _ _ hb5 (Rw.stb _ _ _ _ hb4 (Rw.stb _ _ _ _ hb3 x17_2)))))) hB (Rw.stb _ _ _ _ hb8 (Rw.stb _ _ _ _ hb7 (Rw.stb _ _ _ _ hb6 (Rw.stb _ _ _ _ hb5 (Rw.stb _ _ _ _ hb4 (Rw.stb _ _ _ _ hb3 y17_2)))))) (block_below hB (lt_of_heap n7_2__8) n7_2__8) rfl (hdep 4 42 (by kernel_rfl))),
   fun a w hB hfr hdep => Step.plain rfl (dBuild35 rfl (hdep 3 41 (by kernel_rfl)) (hdep 5 43 (by kernel_rfl))),
   fun a w hB hfr hdep => Step.plain rfl (dAlloc35 hB.size rfl), trivial⟩
 intro u9 hb9
 simp only [List.take, List.drop, FinAll, Act.put, lA, lS, lZ]
 rintro v38_9 h38_9 _ rfl v40_9 h40_9 v41_9 h41_9 _ rfl v43_9 h43_9 _ ⟨p44_9, q44_9, rfl, x44_9, y44_9⟩ _ ⟨g12_9, rfl, l12_9, m12_9⟩
 refine wpList_store_row rfl 45 (.tmp 12) (.tmp 44) rfl _ (#[p44_9, q44_9]) rfl rfl 45 _ m12_9 info35 rfl (rpt_one x44_9 y44_9) ?_
 have n12_9 := setRow_heap _ _ _ (#[p44_9, q44_9]) _ _ m12_9
 replace hb9 := setRow_below hb9 l12_9 (#[p44_9, q44_9])
 replace x44_9 := Rw.setRow x44_9 m12_9 nz35 (#[p44_9, q44_9])
 replace y44_9 := Rw.setRow y44_9 m12_9 nz35 (#[p44_9, q44_9])
 generalize hw9_1 : u9.setRow g12_9 (#[p44_9, q44_9]) = u9_1 at n12_9 hb9 x44_9 y44_9  ⊢
 clear hw9_1 m12_9
 have hO9 := (hO8).trans (hb9.mono (hO8).size)
 have n7_2__9 := block_below hb9 (lt_of_heap n7_2__8) n7_2__8
 have n11_8__9 := block_below hb9 (lt_of_heap n11_8) n11_8
 have lwn12_9 := Nat.le_trans (hO8).size l12_9
 refine hK9 _ _ ?_
 clear hK9 K9
 refine wp_seq_k fun K10 hK10 => ?_
 refine wp_region_inv 6 (specs [RPt (((B0).nm (valD ((sig).drop 32))).x) (((B0).nm (valD ((sig).drop 32))).y), RPt ((0) - (P.x)) ((P).y), Bts (digs 32 (numL ((sig).take 32 ++ pub ++ m))), RPt ((((P).neg).nm (valD (digs 32 (numL ((sig).take 32 ++ pub ++ m))))).x) ((((P).neg).nm (valD (digs 32 (numL ((sig).take 32 ++ pub ++ m))))).y), RPt ((((B0).nm (valD ((sig).drop 32))).add (((P).neg).nm (valD (digs 32 (numL ((sig).take 32 ++ pub ++ m)))))).x) ((((B0).nm (valD ((sig).drop 32))).add (((P).neg).nm (valD (digs 32 (numL ((sig).take 32 ++ pub ++ m)))))).y), Box u9_1.heap.size (#[.slice none 0 0, .slice none 0 0]) 45]) (by kernel_rfl) (specs_stb ⟨RPt.stb _ _, RPt.stb _ _, Bts.stb _, RPt.stb _ _, RPt.stb _ _, Box.stb _ _ _, trivial⟩) (by kernel_rfl) ?_ ?_
 ·refine ⟨fun a w hB hfr hdep => Step.plain rfl (dLoadRPt (Rw.stb _ _ _ _ hb9 x37_8) hB (Rw.stb _ _ _ _ hb9 y37_8) (block_below hB (lt_of_heap n11_8__9) n11_8__9) rfl (hfr 11 (by kernel_rfl))),
   fun a w hB hfr hdep => Step.plain rfl (dLoadRPt x44_9 hB y44_9 (block_below hB (lt_of_heap n12_9) n12_9) rfl (hfr 12 (by kernel_rfl))),
   fun a w hB hfr hdep => Step.plain rfl (dMove (R := Bts (digs 32 (numL ((sig).take 32 ++ pub ++ m)))) rfl (use (hfr 10 (by kernel_rfl)) ((Bts.stb _) _ _ _ hB ((Bts.stb _) _ _ _ hb9 ((Bts.stb _) _ _ _ hb8 h10_7))))),
   fun a w hB hfr hdep => Step.plain rfl (Does.call 21 #[(a.eval (.tmp 46)), (a.eval (.tmp 47))] (by kernel_rfl) (rMulPt (P := (P).neg) w (negRPt (hdep 1 46 (by kernel_rfl))) (hdep 2 47 (by kernel_rfl)) (digs_dig _ _) (by rw [digs_len]; omega))),
   fun a w hB hfr hdep => Step.plain rfl (Does.call 29 #[(a.eval (.tmp 45)), (a.eval (.tmp 48))] (by kernel_rfl) (rAddPt w (hdep 0 45 (by kernel_rfl)) (hdep 3 48 (by kernel_rfl)))),
   fun a w hB hfr hdep => Step.plain rfl (dAlloc35 hB.size rfl), trivial⟩
 intro u10 hb10
 simp only [List.take, List.drop, FinAll, Act.put, lA, lS, lZ]
 rintro v45_10 h45_10 v46_10 h46_10 v47_10 h47_10 v48_10 h48_10 _ ⟨p49_10, q49_10, rfl, x49_10, y49_10⟩ _ ⟨g13_10, rfl, l13_10, m13_10⟩
 refine wpList_store_row rfl 45 (.tmp 13) (.tmp 49) rfl _ (#[p49_10, q49_10]) rfl rfl 45 _ m13_10 info35 rfl (rpt_one x49_10 y49_10) ?_
 have n13_10 := setRow_heap _ _ _ (#[p49_10, q49_10]) _ _ m13_10
 replace hb10 := setRow_below hb10 l13_10 (#[p49_10, q49_10])
 replace x49_10 := Rw.setRow x49_10 m13_10 nz35 (#[p49_10, q49_10])
 replace y49_10 := Rw.setRow y49_10 m13_10 nz35 (#[p49_10, q49_10])
 generalize hw10_1 : u10.setRow g13_10 (#[p49_10, q49_10]) = u10_1 at n13_10 hb10 x49_10 y49_10  ⊢
 clear hw10_1 m13_10
 have hO10 := (hO9).trans (hb10.mono (hO9).size)
 have n7_2__10 := block_below hb10 (lt_of_heap n7_2__9) n7_2__9
 have n11_8__10 := block_below hb10 (lt_of_heap n11_8__9) n11_8__9
 have n12_9__10 := block_below hb10 (lt_of_heap n12_9) n12_9
 have lwn13_10 := Nat.le_trans (hO9).size l13_10
 refine hK10 _ _ ?_
 clear hK10 K10
 refine wp_seq_k fun KO4 hKO4 => ?_
 refine wp_seq_k fun K11 hK11 => ?_
 refine wp_region_inv 7 (specs [RPt ((((B0).nm (valD ((sig).drop 32))).add (((P).neg).nm (valD (digs 32 (numL ((sig).take 32 ++ pub ++ m)))))).x) ((((B0).nm (valD ((sig).drop 32))).add (((P).neg).nm (valD (digs 32 (numL ((sig).take 32 ++ pub ++ m)))))).y), OwnC u10_1.heap.size (digs 32 (Pt.enc (((B0).nm (valD ((sig).drop 32))).add (((P).neg).nm (valD (digs 32 (numL ((sig).take 32 ++ pub ++ m)))))))), Is (.string (strOf (digs 32 (Pt.enc (((B0).nm (valD ((sig).drop 32))).add (((P).neg).nm (valD (digs 32 (numL ((sig).take 32 ++ pub ++ m)))))))))), Bts (sig), Bts ((sig).take 32), Is (.string (strOf ((sig).take 32))), Is (.bool true)]) (by kernel_rfl) (specs_stb ⟨RPt.stb _ _, OwnC.stb _ _, Is.stb _, Bts.stb _, Bts.stb _, Is.stb _, Is.stb _, trivial⟩) (by kernel_rfl) ?_ ?_
 ·refine ⟨fun a w hB hfr hdep => Step.plain rfl (dLoadRPt x49_10 hB y49_10 (block_below hB (lt_of_heap n13_10) n13_10) rfl (hfr 13 (by kernel_rfl))),
   fun a w hB hfr hdep => Step.plain rfl (Does.call 20 #[(a.eval (.tmp 50))] (by kernel_rfl) (ownCLo hB.size (rPBytes w (hdep 0 50 (by kernel_rfl))))),
   fun a w hB hfr hdep => Step.plain rfl (dConvBts rfl (OwnC.bts (hdep 1 51 (by kernel_rfl)))),
   fun a w hB hfr hdep => Step.plain rfl (dMove (R := Bts (sig)) rfl (use (hfr 2 (by kernel_rfl)) ((Bts.stb _) _ _ _ hB ((Bts.stb _) _ _ _ hb10 ((Bts.stb _) _ _ _ hb9 ((Bts.stb _) _ _ _ hb8 ((Bts.stb _) _ _ _ hb7 ((Bts.stb _) _ _ _ hb6 ((Bts.stb _) _ _ _ hb5 ((Bts.stb _) _ _ _ hb4 ((Bts.stb _) _ _ _ hb3 ((Bts.stb _) _ _ _ hb2 ((Bts.stb _) _ _ _ hb1 hs))))))))))))),
   fun a w hB hfr hdep => Step.plain rfl (dTake32 hs64 rfl (hdep 3 53 (by kernel_rfl)) rfl),
   fun a w hB hfr hdep => Step.plain rfl (dConvBts rfl (hdep 4 54 (by kernel_rfl))),
   fun a w hB hfr hdep => Step.plain rfl (Does.run _ (run_neqStrB (b := true) hE rfl (hdep 2 52 (by kernel_rfl)) (hdep 5 55 (by kernel_rfl))) rfl), trivial⟩
 intro u11 hb11
 simp only [List.take, List.drop, FinAll, Act.put, lA, lS, lZ]
 rintro v50_11 h50_11 v51_11 h51_11 _ rfl v53_11 h53_11 v54_11 h54_11 _ rfl _ rfl
 have hO11 := (hO10).trans (hb11.mono (hO10).size)
 have n7_2__11 := block_below hb11 (lt_of_heap n7_2__10) n7_2__10
 have n11_8__11 := block_below hb11 (lt_of_heap n11_8__10) n11_8__10
 have n12_9__11 := block_below hb11 (lt_of_heap n12_9__10) n12_9__10
 have n13_10__11 := block_below hb11 (lt_of_heap n13_10) n13_10
 refine hK11 _ _ ?_
 clear hK11 K11
 refine wp_cond_true rfl ?_
 refine wp_seq_k fun K12 hK12 => ?_
 refine wp_plain_inv 1 (specs [Is (.int .i64 2)]) (specs_stb ⟨Is.stb _, trivial⟩) (by kernel_rfl) ?_ ?_
 ·refine ⟨fun a w hB hfr hdep => Step.plain rfl (dAssign (R := Is (.int .i64 2)) rfl rfl), trivial⟩
 intro u12 hb12
 simp only [List.take, List.drop, FinAll, Act.put, lA, lS, lZ]
 rintro _ rfl
 have hO12 := (hO11).trans (hb12.mono (hO11).size)
 have n7_2__12 := block_below hb12 (lt_of_heap n7_2__11) n7_2__11
 have n11_8__12 := block_below hb12 (lt_of_heap n11_8__11) n11_8__11
 have n12_9__12 := block_below hb12 (lt_of_heap n12_9__11) n12_9__11
 have n13_10__12 := block_below hb12 (lt_of_heap n13_10__11) n13_10__11
 refine hK12 _ _ ?_
 clear hK12 K12
 refine wp_ret ?_
 simp only [Exit.then]
 refine bodyPost_ret (results_tmp rfl _ _ _) rfl ?_
 exact ⟨_, rfl, hO12, rfl⟩
theorem rVerOk {pub m sig : List Nat} {v1 v2 v3 : Value} {B0 : Pt} (hBase : ∀ w, Ret 22 #[] w (RPt B0.x B0.y)) (w : World) (hp : Bts pub v1 w) (hm : Bts m v2 w) (hs : Bts sig v3 w) (hpub : Dig pub) (hmd : Dig m) (hsig : Dig sig) {P : Pt} (hP : P.enc = valD pub) (hp32 : pub.length = 32) (hs64 : sig.length = 64) (hml : m.length ≤ 50000) (hIs : isL ((sig).drop 32) = true) (hE : ((strOf (digs 32 (Pt.enc ((B0.nm (valD ((sig).drop 32))).add (((P).neg).nm (valD (digs 32 (numL ((sig).take 32 ++ pub ++ m))))))))).toList == (strOf ((sig).take 32)).toList) = !false) : Ret 10 #[v1, v2, v3] w (Is (.int .i64 0)) := by
 unfold Ret
 have hO0 : Below w.heap.size w w := Below.refl _ _
 go_enter Tryz.func10, Tryz.ntmps10
 refine wp_seq_k fun K1 hK1 => ?_
 refine wp_plain_inv 1 (specs [Is (.int .i64 0)]) (specs_stb ⟨Is.stb _, trivial⟩) (by kernel_rfl) ?_ ?_
 ·refine ⟨fun a w hB hfr hdep => Step.plain rfl (dAssign (R := Is (.int .i64 0)) rfl rfl), trivial⟩
 intro u1 hb1
 simp only [List.take, List.drop, FinAll, Act.put, lA, lS, lZ]
 rintro _ rfl
 have hO1 := (hO0).trans (hb1.mono (hO0).size)
 refine hK1 _ _ ?_
 clear hK1 K1
 refine wp_seq_k fun K2 hK2 => ?_
 refine wp_plain_inv 6 (specs [Bts (pub), Tup2 (RPt ((P).x) ((P).y)) (Is (.bool true)), Tup2 (RPt ((P).x) ((P).y)) (Is (.bool true)), RPt ((P).x) ((P).y), Is (.bool true), Box u1.heap.size (#[.slice none 0 0, .slice none 0 0]) 45]) (specs_stb ⟨Bts.stb _, Tup2.stb (RPt.stb _ _) (Is.stb _), Tup2.stb (RPt.stb _ _) (Is.stb _), RPt.stb _ _, Is.stb _, Box.stb _ _ _, trivial⟩) (by kernel_rfl) ?_ ?_
 ·refine ⟨fun a w hB hfr hdep => Step.plain rfl (dMove (R := Bts (pub)) rfl (use (hfr 0 (by kernel_rfl)) ((Bts.stb _) _ _ _ hB ((Bts.stb _) _ _ _ hb1 hp)))),
   fun a w hB hfr hdep => Step.plain rfl (Does.call 25 #[(a.eval (.tmp 15))] (by kernel_rfl) (rReadPt w (hdep 0 15 (by kernel_rfl)) hp32 hpub hP)),
   fun a w hB hfr hdep => Step.plain rfl (dMove (R := Tup2 (RPt ((P).x) ((P).y)) (Is (.bool true))) rfl (hdep 1 16 (by kernel_rfl))),
   fun a w hB hfr hdep => Step.plain rfl (dExt0 rfl (hdep 2 14 (by kernel_rfl))),
   fun a w hB hfr hdep => Step.plain rfl (dExt1 rfl (hdep 2 14 (by kernel_rfl))),
   fun a w hB hfr hdep => Step.plain rfl (dAlloc35 hB.size rfl), trivial⟩
 intro u2 hb2
 simp only [List.take, List.drop, FinAll, Act.put, lA, lS, lZ]
 rintro v15_2 h15_2 v16_2 h16_2 v14_2 h14_2 _ ⟨p17_2, q17_2, rfl, x17_2, y17_2⟩ _ rfl _ ⟨g7_2, rfl, l7_2, m7_2⟩
 refine wpList_store_row rfl 45 (.tmp 7) (.tmp 17) rfl _ (#[p17_2, q17_2]) rfl rfl 45 _ m7_2 info35 rfl (rpt_one x17_2 y17_2) ?_
 have n7_2 := setRow_heap _ _ _ (#[p17_2, q17_2]) _ _ m7_2
 replace hb2 := setRow_below hb2 l7_2 (#[p17_2, q17_2])
 replace x17_2 := Rw.setRow x17_2 m7_2 nz35 (#[p17_2, q17_2])
 replace y17_2 := Rw.setRow y17_2 m7_2 nz35 (#[p17_2, q17_2])
 generalize hw2_1 : u2.setRow g7_2 (#[p17_2, q17_2]) = u2_1 at n7_2 hb2 x17_2 y17_2  ⊢
 clear hw2_1 m7_2
 refine wpList_assign rfl rfl rfl ?_
 simp only [Act.put, Act.eval, Array.getD_eq_getD_getElem?, List.getElem?_toArray, List.getElem?_cons_succ, List.getElem?_cons_zero, Option.getD_some, lA, lS, lZ]
 have hO2 := (hO1).trans (hb2.mono (hO1).size)
 have lwn7_2 := Nat.le_trans (hO1).size l7_2
 refine hK2 _ _ ?_
 clear hK2 K2
 refine wp_seq_k fun KO1 hKO1 => ?_
 refine wp_seq_k fun K3 hK3 => ?_
 refine wp_plain_inv 2 (specs [Is (.bool true), Is (.bool false)]) (specs_stb ⟨Is.stb _, Is.stb _, trivial⟩) (by kernel_rfl) ?_ ?_
 ·refine ⟨fun a w hB hfr hdep => Step.plain rfl (dMove (R := Is (.bool true)) rfl (hfr 8 (by kernel_rfl))),
   fun a w hB hfr hdep => Step.plain rfl (Does.run _ (run_notO rfl (hdep 0 19 (by kernel_rfl))) rfl), trivial⟩
 intro u3 hb3
 simp only [List.take, List.drop, FinAll, Act.put, lA, lS, lZ]
 rintro _ rfl _ rfl
 have hO3 := (hO2).trans (hb3.mono (hO2).size)
 have n7_2__3 := block_below hb3 (lt_of_heap n7_2) n7_2
 refine hK3 _ _ ?_
 clear hK3 K3
 refine wp_cond_false rfl ?_
 refine wp_skip ?_
 refine hKO1 _ _ ?_
 clear hKO1 KO1
 refine wp_seq_k fun KO2 hKO2 => ?_
 refine wp_seq_k fun K4 hK4 => ?_
 refine wp_plain_inv 3 (specs [Bts (sig), Is (.int .i64 64), Is (.bool false)]) (specs_stb ⟨Bts.stb _, Is.stb _, Is.stb _, trivial⟩) (by kernel_rfl) ?_ ?_
 ·refine ⟨fun a w hB hfr hdep => Step.plain rfl (dMove (R := Bts (sig)) rfl (use (hfr 2 (by kernel_rfl)) ((Bts.stb _) _ _ _ hB ((Bts.stb _) _ _ _ hb3 ((Bts.stb _) _ _ _ hb2 ((Bts.stb _) _ _ _ hb1 hs)))))),
   fun a w hB hfr hdep => Step.plain rfl (dLenB hs64 rfl (hdep 0 21 (by kernel_rfl))),
   fun a w hB hfr hdep => Step.plain rfl (Does.run _ (run_binO rfl (hdep 1 22 (by kernel_rfl)) rfl (by kernel_rfl)) rfl), trivial⟩
 intro u4 hb4
 simp only [List.take, List.drop, FinAll, Act.put, lA, lS, lZ]
 rintro v21_4 h21_4 _ rfl _ rfl
 have hO4 := (hO3).trans (hb4.mono (hO3).size)
 have n7_2__4 := block_below hb4 (lt_of_heap n7_2__3) n7_2__3
 refine hK4 _ _ ?_
 clear hK4 K4
 refine wp_cond_false rfl ?_
 refine wp_skip ?_
 refine hKO2 _ _ ?_
 clear hKO2 KO2
 refine wp_seq_k fun K5 hK5 => ?_
 refine wp_plain_inv 4 (specs [Bts (sig), Bts ((sig).drop 32), Is (.bool true), Is (.bool true)]) (specs_stb ⟨Bts.stb _, Bts.stb _, Is.stb _, Is.stb _, trivial⟩) (by kernel_rfl) ?_ ?_
 ·refine ⟨fun a w hB hfr hdep => Step.plain rfl (dMove (R := Bts (sig)) rfl (use (hfr 2 (by kernel_rfl)) ((Bts.stb _) _ _ _ hB ((Bts.stb _) _ _ _ hb4 ((Bts.stb _) _ _ _ hb3 ((Bts.stb _) _ _ _ hb2 ((Bts.stb _) _ _ _ hb1 hs))))))),
   fun a w hB hfr hdep => Step.plain rfl (dDrop32 hs64 rfl (hdep 0 24 (by kernel_rfl)) rfl),
   fun a w hB hfr hdep => Step.plain rfl (Does.call 26 #[(a.eval (.tmp 25))] (by kernel_rfl) (rIsB hIs w (hdep 1 25 (by kernel_rfl)) (Dig.drop hsig _) (by rw [List.length_drop]; omega))),
   fun a w hB hfr hdep => Step.plain rfl (dAssign (R := Is (.bool true)) rfl (hdep 2 26 (by kernel_rfl))), trivial⟩
 intro u5 hb5
 simp only [List.take, List.drop, FinAll, Act.put, lA, lS, lZ]
 rintro v24_5 h24_5 v25_5 h25_5 _ rfl _ rfl
 have hO5 := (hO4).trans (hb5.mono (hO4).size)
 have n7_2__5 := block_below hb5 (lt_of_heap n7_2__4) n7_2__4
 refine hK5 _ _ ?_
 clear hK5 K5
 refine wp_seq_k fun KO3 hKO3 => ?_
 refine wp_seq_k fun K6 hK6 => ?_
 refine wp_plain_inv 2 (specs [Is (.bool true), Is (.bool false)]) (specs_stb ⟨Is.stb _, Is.stb _, trivial⟩) (by kernel_rfl) ?_ ?_
 ·refine ⟨fun a w hB hfr hdep => Step.plain rfl (dMove (R := Is (.bool true)) rfl (hfr 9 (by kernel_rfl))),
   fun a w hB hfr hdep => Step.plain rfl (Does.run _ (run_notO rfl (hdep 0 27 (by kernel_rfl))) rfl), trivial⟩
 intro u6 hb6
 simp only [List.take, List.drop, FinAll, Act.put, lA, lS, lZ]
 rintro _ rfl _ rfl
 have hO6 := (hO5).trans (hb6.mono (hO5).size)
 have n7_2__6 := block_below hb6 (lt_of_heap n7_2__5) n7_2__5
 refine hK6 _ _ ?_
 clear hK6 K6
 refine wp_cond_false rfl ?_
 refine wp_skip ?_
 refine hKO3 _ _ ?_
 clear hKO3 KO3
 refine wp_seq_k fun K7 hK7 => ?_
 refine wp_plain_inv 6 (specs [Bts (sig), Bts ((sig).take 32), Bts (pub), Bts (m), Bts (digs 32 (numL ((sig).take 32 ++ pub ++ m))), Bts (digs 32 (numL ((sig).take 32 ++ pub ++ m)))]) (specs_stb ⟨Bts.stb _, Bts.stb _, Bts.stb _, Bts.stb _, Bts.stb _, Bts.stb _, trivial⟩) (by kernel_rfl) ?_ ?_
 ·refine ⟨fun a w hB hfr hdep => Step.plain rfl (dMove (R := Bts (sig)) rfl (use (hfr 2 (by kernel_rfl)) ((Bts.stb _) _ _ _ hB ((Bts.stb _) _ _ _ hb6 ((Bts.stb _) _ _ _ hb5 ((Bts.stb _) _ _ _ hb4 ((Bts.stb _) _ _ _ hb3 ((Bts.stb _) _ _ _ hb2 ((Bts.stb _) _ _ _ hb1 hs))))))))),
   fun a w hB hfr hdep => Step.plain rfl (dTake32 hs64 rfl (hdep 0 29 (by kernel_rfl)) rfl),
   fun a w hB hfr hdep => Step.plain rfl (dMove (R := Bts (pub)) rfl (use (hfr 0 (by kernel_rfl)) ((Bts.stb _) _ _ _ hB ((Bts.stb _) _ _ _ hb6 ((Bts.stb _) _ _ _ hb5 ((Bts.stb _) _ _ _ hb4 ((Bts.stb _) _ _ _ hb3 ((Bts.stb _) _ _ _ hb2 ((Bts.stb _) _ _ _ hb1 hp))))))))),
   fun a w hB hfr hdep => Step.plain rfl (dMove (R := Bts (m)) rfl (use (hfr 1 (by kernel_rfl)) ((Bts.stb _) _ _ _ hB ((Bts.stb _) _ _ _ hb6 ((Bts.stb _) _ _ _ hb5 ((Bts.stb _) _ _ _ hb4 ((Bts.stb _) _ _ _ hb3 ((Bts.stb _) _ _ _ hb2 ((Bts.stb _) _ _ _ hb1 hm))))))))),
   fun a w hB hfr hdep => Step.plain rfl (Does.call 19 #[(a.eval (.tmp 30)), (a.eval (.tmp 31)), (a.eval (.tmp 32))] (by kernel_rfl) (rHash w (hdep 1 30 (by kernel_rfl)) (hdep 2 31 (by kernel_rfl)) (hdep 3 32 (by kernel_rfl)) (Dig.take hsig _) hpub hmd (by rw [List.length_take]; omega) (by rw [List.length_take]; omega))),
   fun a w hB hfr hdep => Step.plain rfl (dAssign (R := Bts (digs 32 (numL ((sig).take 32 ++ pub ++ m)))) rfl (hdep 4 33 (by kernel_rfl))), trivial⟩
 intro u7 hb7
 simp only [List.take, List.drop, FinAll, Act.put, lA, lS, lZ]
 rintro v29_7 h29_7 v30_7 h30_7 v31_7 h31_7 v32_7 h32_7 v33_7 h33_7 v10_7 h10_7
 have hO7 := (hO6).trans (hb7.mono (hO6).size)
 have n7_2__7 := block_below hb7 (lt_of_heap n7_2__6) n7_2__6
 refine hK7 _ _ ?_
 clear hK7 K7
 refine wp_seq_k fun K8 hK8 => ?_
 refine wp_region_inv 5 (specs [RPt ((B0).x) ((B0).y), Bts (sig), Bts ((sig).drop 32), RPt (((B0).nm (valD ((sig).drop 32))).x) (((B0).nm (valD ((sig).drop 32))).y), Box u7.heap.size (#[.slice none 0 0, .slice none 0 0]) 45]) (by kernel_rfl) (specs_stb ⟨RPt.stb _ _, Bts.stb _, Bts.stb _, RPt.stb _ _, Box.stb _ _ _, trivial⟩) (by kernel_rfl) ?_ ?_
 ·refine ⟨fun a w hB hfr hdep => Step.plain rfl (Does.call 22 #[] (by kernel_rfl) (hBase w)),
   fun a w hB hfr hdep => Step.plain rfl (dMove (R := Bts (sig)) rfl (use (hfr 2 (by kernel_rfl)) ((Bts.stb _) _ _ _ hB ((Bts.stb _) _ _ _ hb7 ((Bts.stb _) _ _ _ hb6 ((Bts.stb _) _ _ _ hb5 ((Bts.stb _) _ _ _ hb4 ((Bts.stb _) _ _ _ hb3 ((Bts.stb _) _ _ _ hb2 ((Bts.stb _) _ _ _ hb1 hs)))))))))),
   fun a w hB hfr hdep => Step.plain rfl (dDrop32 hs64 rfl (hdep 1 35 (by kernel_rfl)) rfl),
   fun a w hB hfr hdep => Step.plain rfl (Does.call 21 #[(a.eval (.tmp 34)), (a.eval (.tmp 36))] (by kernel_rfl) (rMulPt (P := B0) w (hdep 0 34 (by kernel_rfl)) (hdep 2 36 (by kernel_rfl)) (Dig.drop hsig _) (by rw [List.length_drop]; omega))),
   fun a w hB hfr hdep => Step.plain rfl (dAlloc35 hB.size rfl), trivial⟩
 intro u8 hb8
 simp only [List.take, List.drop, FinAll, Act.put, lA, lS, lZ]
 rintro v34_8 h34_8 v35_8 h35_8 v36_8 h36_8 _ ⟨p37_8, q37_8, rfl, x37_8, y37_8⟩ _ ⟨g11_8, rfl, l11_8, m11_8⟩
 refine wpList_store_row rfl 45 (.tmp 11) (.tmp 37) rfl _ (#[p37_8, q37_8]) rfl rfl 45 _ m11_8 info35 rfl (rpt_one x37_8 y37_8) ?_
 have n11_8 := setRow_heap _ _ _ (#[p37_8, q37_8]) _ _ m11_8
 replace hb8 := setRow_below hb8 l11_8 (#[p37_8, q37_8])
 replace x37_8 := Rw.setRow x37_8 m11_8 nz35 (#[p37_8, q37_8])
 replace y37_8 := Rw.setRow y37_8 m11_8 nz35 (#[p37_8, q37_8])
 generalize hw8_1 : u8.setRow g11_8 (#[p37_8, q37_8]) = u8_1 at n11_8 hb8 x37_8 y37_8  ⊢
 clear hw8_1 m11_8
 have hO8 := (hO7).trans (hb8.mono (hO7).size)
 have n7_2__8 := block_below hb8 (lt_of_heap n7_2__7) n7_2__7
 have lwn11_8 := Nat.le_trans (hO7).size l11_8
 refine hK8 _ _ ?_
 clear hK8 K8
 refine wp_seq_k fun K9 hK9 => ?_
 refine wp_region_inv 8 (specs [Rw (0), Is (.pointer (some ⟨g7_2, 0, none⟩)), Rw ((P).x), Rw ((0) - (P.x)), Is (.pointer (some ⟨g7_2, 1, none⟩)), Rw ((P).y), RPt ((0) - (P.x)) ((P).y), Box u8_1.heap.size (#[.slice none 0 0, .slice none 0 0]) 45]) (by kernel_rfl) (specs_stb ⟨Rw.stb _, Is.stb _, Rw.stb _, Rw.stb _, Is.stb _, Rw.stb _, RPt.stb _ _, Box.stb _ _ _, trivial⟩) (by kernel_rfl) ?_ ?_
 ·refine ⟨fun a w hB hfr hdep => Step.plain rfl (Does.call 28 #[.int .i64 0] (by kernel_rfl) (rInt w 0 (by decide))),
   fun a w hB hfr hdep => Step.plain rfl (dFa35 g7_2 0 (by decide) rfl (hfr 7 (by kernel_rfl))),
   fun a w hB hfr hdep => Step.plain rfl (dLoadR0 (Rw.stb _ _ _ _ hb8 (Rw.stb _ _ _ _ hb7 (Rw.stb _ _ _ _ hb6 (Rw.stb _ _ _ _ hb5 (Rw.stb _ _ _ _ hb4 (Rw.stb _ _ _ _ hb3 x17_2)))))) hB (Rw.stb _ _ _ _ hb8 (Rw.stb _ _ _ _ hb7 (Rw.stb _ _ _ _ hb6 (Rw.stb _ _ _ _ hb5 (Rw.stb _ _ _ _ hb4 (Rw.stb _ _ _ _ hb3 y17_2)))))) (block_below hB (lt_of_heap n7_2__8) n7_2__8) rfl (hdep 1 39 (by kernel_rfl))),
   fun a w hB hfr hdep => Step.plain rfl (Does.call 27 #[(a.eval (.tmp 38)), (a.eval (.tmp 40))] (by kernel_rfl) (rSub (x := 0) (y := P.x) w (hdep 0 38 (by kernel_rfl)) (hdep 2 40 (by kernel_rfl)))),
   fun a w hB hfr hdep => Step.plain rfl (dFa35 g7_2 1 (by decide) rfl (hfr 7 (by kernel_rfl))),
   fun a w hB hfr hdep => Step.plain rfl (dLoadR1 (Rw.stb _ _ _ _ hb8 (Rw.stb _ _ _ _ hb7 (Rw.stb _ _ _ _ hb6 (Rw.stb _ _ _ _ hb5 (Rw.stb _ _ _ _ hb4 (Rw.stb _ _ _ _ hb3 x17_2)))))) hB (Rw.stb _ _ _ _ hb8 (Rw.stb _ _ _ _ hb7 (Rw.stb _ _ _ _ hb6 (Rw.stb _ _ _ _ hb5 (Rw.stb _ _ _ _ hb4 (Rw.stb _ _ _ _ hb3 y17_2)))))) (block_below hB (lt_of_heap n7_2__8) n7_2__8) rfl (hdep 4 42 (by kernel_rfl))),
   fun a w hB hfr hdep => Step.plain rfl (dBuild35 rfl (hdep 3 41 (by kernel_rfl)) (hdep 5 43 (by kernel_rfl))),
   fun a w hB hfr hdep => Step.plain rfl (dAlloc35 hB.size rfl), trivial⟩
 intro u9 hb9
 simp only [List.take, List.drop, FinAll, Act.put, lA, lS, lZ]
 rintro v38_9 h38_9 _ rfl v40_9 h40_9 v41_9 h41_9 _ rfl v43_9 h43_9 _ ⟨p44_9, q44_9, rfl, x44_9, y44_9⟩ _ ⟨g12_9, rfl, l12_9, m12_9⟩
 refine wpList_store_row rfl 45 (.tmp 12) (.tmp 44) rfl _ (#[p44_9, q44_9]) rfl rfl 45 _ m12_9 info35 rfl (rpt_one x44_9 y44_9) ?_
 have n12_9 := setRow_heap _ _ _ (#[p44_9, q44_9]) _ _ m12_9
 replace hb9 := setRow_below hb9 l12_9 (#[p44_9, q44_9])
 replace x44_9 := Rw.setRow x44_9 m12_9 nz35 (#[p44_9, q44_9])
 replace y44_9 := Rw.setRow y44_9 m12_9 nz35 (#[p44_9, q44_9])
 generalize hw9_1 : u9.setRow g12_9 (#[p44_9, q44_9]) = u9_1 at n12_9 hb9 x44_9 y44_9  ⊢
 clear hw9_1 m12_9
 have hO9 := (hO8).trans (hb9.mono (hO8).size)
 have n7_2__9 := block_below hb9 (lt_of_heap n7_2__8) n7_2__8
 have n11_8__9 := block_below hb9 (lt_of_heap n11_8) n11_8
 have lwn12_9 := Nat.le_trans (hO8).size l12_9
 refine hK9 _ _ ?_
 clear hK9 K9
 refine wp_seq_k fun K10 hK10 => ?_
 refine wp_region_inv 6 (specs [RPt (((B0).nm (valD ((sig).drop 32))).x) (((B0).nm (valD ((sig).drop 32))).y), RPt ((0) - (P.x)) ((P).y), Bts (digs 32 (numL ((sig).take 32 ++ pub ++ m))), RPt ((((P).neg).nm (valD (digs 32 (numL ((sig).take 32 ++ pub ++ m))))).x) ((((P).neg).nm (valD (digs 32 (numL ((sig).take 32 ++ pub ++ m))))).y), RPt ((((B0).nm (valD ((sig).drop 32))).add (((P).neg).nm (valD (digs 32 (numL ((sig).take 32 ++ pub ++ m)))))).x) ((((B0).nm (valD ((sig).drop 32))).add (((P).neg).nm (valD (digs 32 (numL ((sig).take 32 ++ pub ++ m)))))).y), Box u9_1.heap.size (#[.slice none 0 0, .slice none 0 0]) 45]) (by kernel_rfl) (specs_stb ⟨RPt.stb _ _, RPt.stb _ _, Bts.stb _, RPt.stb _ _, RPt.stb _ _, Box.stb _ _ _, trivial⟩) (by kernel_rfl) ?_ ?_
 ·refine ⟨fun a w hB hfr hdep => Step.plain rfl (dLoadRPt (Rw.stb _ _ _ _ hb9 x37_8) hB (Rw.stb _ _ _ _ hb9 y37_8) (block_below hB (lt_of_heap n11_8__9) n11_8__9) rfl (hfr 11 (by kernel_rfl))),
   fun a w hB hfr hdep => Step.plain rfl (dLoadRPt x44_9 hB y44_9 (block_below hB (lt_of_heap n12_9) n12_9) rfl (hfr 12 (by kernel_rfl))),
   fun a w hB hfr hdep => Step.plain rfl (dMove (R := Bts (digs 32 (numL ((sig).take 32 ++ pub ++ m)))) rfl (use (hfr 10 (by kernel_rfl)) ((Bts.stb _) _ _ _ hB ((Bts.stb _) _ _ _ hb9 ((Bts.stb _) _ _ _ hb8 h10_7))))),
   fun a w hB hfr hdep => Step.plain rfl (Does.call 21 #[(a.eval (.tmp 46)), (a.eval (.tmp 47))] (by kernel_rfl) (rMulPt (P := (P).neg) w (negRPt (hdep 1 46 (by kernel_rfl))) (hdep 2 47 (by kernel_rfl)) (digs_dig _ _) (by rw [digs_len]; omega))),
   fun a w hB hfr hdep => Step.plain rfl (Does.call 29 #[(a.eval (.tmp 45)), (a.eval (.tmp 48))] (by kernel_rfl) (rAddPt w (hdep 0 45 (by kernel_rfl)) (hdep 3 48 (by kernel_rfl)))),
   fun a w hB hfr hdep => Step.plain rfl (dAlloc35 hB.size rfl), trivial⟩
 intro u10 hb10
 simp only [List.take, List.drop, FinAll, Act.put, lA, lS, lZ]
 rintro v45_10 h45_10 v46_10 h46_10 v47_10 h47_10 v48_10 h48_10 _ ⟨p49_10, q49_10, rfl, x49_10, y49_10⟩ _ ⟨g13_10, rfl, l13_10, m13_10⟩
 refine wpList_store_row rfl 45 (.tmp 13) (.tmp 49) rfl _ (#[p49_10, q49_10]) rfl rfl 45 _ m13_10 info35 rfl (rpt_one x49_10 y49_10) ?_
 have n13_10 := setRow_heap _ _ _ (#[p49_10, q49_10]) _ _ m13_10
 replace hb10 := setRow_below hb10 l13_10 (#[p49_10, q49_10])
 replace x49_10 := Rw.setRow x49_10 m13_10 nz35 (#[p49_10, q49_10])
 replace y49_10 := Rw.setRow y49_10 m13_10 nz35 (#[p49_10, q49_10])
 generalize hw10_1 : u10.setRow g13_10 (#[p49_10, q49_10]) = u10_1 at n13_10 hb10 x49_10 y49_10  ⊢
 clear hw10_1 m13_10
 have hO10 := (hO9).trans (hb10.mono (hO9).size)
 have n7_2__10 := block_below hb10 (lt_of_heap n7_2__9) n7_2__9
 have n11_8__10 := block_below hb10 (lt_of_heap n11_8__9) n11_8__9
 have n12_9__10 := block_below hb10 (lt_of_heap n12_9) n12_9
 have lwn13_10 := Nat.le_trans (hO9).size l13_10
 refine hK10 _ _ ?_
 clear hK10 K10
 refine wp_seq_k fun KO4 hKO4 => ?_
 refine wp_seq_k fun K11 hK11 => ?_
 refine wp_region_inv 7 (specs [RPt ((((B0).nm (valD ((sig).drop 32))).add (((P).neg).nm (valD (digs 32 (numL ((sig).take 32 ++ pub ++ m)))))).x) ((((B0).nm (valD ((sig).drop 32))).add (((P).neg).nm (valD (digs 32 (numL ((sig).take 32 ++ pub ++ m)))))).y), OwnC u10_1.heap.size (digs 32 (Pt.enc (((B0).nm (valD ((sig).drop 32))).add (((P).neg).nm (valD (digs 32 (numL ((sig).take 32 ++ pub ++ m)))))))), Is (.string (strOf (digs 32 (Pt.enc (((B0).nm (valD ((sig).drop 32))).add (((P).neg).nm (valD (digs 32 (numL ((sig).take 32 ++ pub ++ m)))))))))), Bts (sig), Bts ((sig).take 32), Is (.string (strOf ((sig).take 32))), Is (.bool false)]) (by kernel_rfl) (specs_stb ⟨RPt.stb _ _, OwnC.stb _ _, Is.stb _, Bts.stb _, Bts.stb _, Is.stb _, Is.stb _, trivial⟩) (by kernel_rfl) ?_ ?_
 ·refine ⟨fun a w hB hfr hdep => Step.plain rfl (dLoadRPt x49_10 hB y49_10 (block_below hB (lt_of_heap n13_10) n13_10) rfl (hfr 13 (by kernel_rfl))),
   fun a w hB hfr hdep => Step.plain rfl (Does.call 20 #[(a.eval (.tmp 50))] (by kernel_rfl) (ownCLo hB.size (rPBytes w (hdep 0 50 (by kernel_rfl))))),
   fun a w hB hfr hdep => Step.plain rfl (dConvBts rfl (OwnC.bts (hdep 1 51 (by kernel_rfl)))),
   fun a w hB hfr hdep => Step.plain rfl (dMove (R := Bts (sig)) rfl (use (hfr 2 (by kernel_rfl)) ((Bts.stb _) _ _ _ hB ((Bts.stb _) _ _ _ hb10 ((Bts.stb _) _ _ _ hb9 ((Bts.stb _) _ _ _ hb8 ((Bts.stb _) _ _ _ hb7 ((Bts.stb _) _ _ _ hb6 ((Bts.stb _) _ _ _ hb5 ((Bts.stb _) _ _ _ hb4 ((Bts.stb _) _ _ _ hb3 ((Bts.stb _) _ _ _ hb2 ((Bts.stb _) _ _ _ hb1 hs))))))))))))),
   fun a w hB hfr hdep => Step.plain rfl (dTake32 hs64 rfl (hdep 3 53 (by kernel_rfl)) rfl),
   fun a w hB hfr hdep => Step.plain rfl (dConvBts rfl (hdep 4 54 (by kernel_rfl))),
   fun a w hB hfr hdep => Step.plain rfl (Does.run _ (run_neqStrB (b := false) hE rfl (hdep 2 52 (by kernel_rfl)) (hdep 5 55 (by kernel_rfl))) rfl), trivial⟩
 intro u11 hb11
 simp only [List.take, List.drop, FinAll, Act.put, lA, lS, lZ]
 rintro v50_11 h50_11 v51_11 h51_11 _ rfl v53_11 h53_11 v54_11 h54_11 _ rfl _ rfl
 have hO11 := (hO10).trans (hb11.mono (hO10).size)
 have n7_2__11 := block_below hb11 (lt_of_heap n7_2__10) n7_2__10
 have n11_8__11 := block_below hb11 (lt_of_heap n11_8__10) n11_8__10
 have n12_9__11 := block_below hb11 (lt_of_heap n12_9__10) n12_9__10
 have n13_10__11 := block_below hb11 (lt_of_heap n13_10) n13_10
 refine hK11 _ _ ?_
 clear hK11 K11
 refine wp_cond_false rfl ?_
 refine wp_skip ?_
 refine hKO4 _ _ ?_
 clear hKO4 KO4
 refine wp_seq_k fun K12 hK12 => ?_
 refine wp_plain_inv 1 (specs [Is (.int .i64 0)]) (specs_stb ⟨Is.stb _, trivial⟩) (by kernel_rfl) ?_ ?_
 ·refine ⟨fun a w hB hfr hdep => Step.plain rfl (dAssign (R := Is (.int .i64 0)) rfl rfl), trivial⟩
 intro u12 hb12
 simp only [List.take, List.drop, FinAll, Act.put, lA, lS, lZ]
 rintro _ rfl
 have hO12 := (hO11).trans (hb12.mono (hO11).size)
 have n7_2__12 := block_below hb12 (lt_of_heap n7_2__11) n7_2__11
 have n11_8__12 := block_below hb12 (lt_of_heap n11_8__11) n11_8__11
 have n12_9__12 := block_below hb12 (lt_of_heap n12_9__11) n12_9__11
 have n13_10__12 := block_below hb12 (lt_of_heap n13_10__11) n13_10__11
 refine hK12 _ _ ?_
 clear hK12 K12
 refine wp_ret ?_
 refine bodyPost_ret (results_tmp rfl _ _ _) rfl ?_
 exact ⟨_, rfl, hO12, rfl⟩
end Go.Proofs.YtabgihjffjlfiaaGreatDoor
set_option linter.unusedVariables false
namespace Go.Proofs.YtabgihjffjlfiaaGreatDoor
open Go.RowKit Go.Sort Go.BigFrame EN
set_option maxRecDepth 100000
set_option maxHeartbeats 2000000
theorem btsNil {v : Value} {w : World} (h : v = .slice none 0 0) : Bts [] v w := ⟨none, 0, h, Nat.le_refl _, by decide, fun h => absurd h (by simp)⟩
theorem verKey {pub m sig : List Nat} {v1 v2 v3 : Value} (w : World) (hT : TabV w) (hp : Bts pub v1 w) (hm : Bts m v2 w) (hs : Bts sig v3 w) (hpub : Dig pub) (hmd : Dig m) (hsig : Dig sig) (h11 : ∀ v w, TabV w → Bts pub v w → Ret 30 #[v] w (Tup2 (Is (.agg (ptc zeroE zeroE zeroE zeroE))) (Is (.int .i64 2)))) : Ret 11 #[v1, v2, v3] w (Is (.int .i64 11)) := by
 unfold Ret
 have hO0 : Below w.heap.size w w := Below.refl _ _
 go_enter Tryz.func11, Tryz.ntmps11
 refine wp_seq_k fun K1 hK1 => ?_
 refine wp_plain_inv 1 (specs [Is (.int .i64 0)]) (specs_stb ⟨Is.stb _, trivial⟩) (by kernel_rfl) ?_ ?_
 ·refine ⟨fun a w hB hfr hdep => Step.plain rfl (dAssign (R := Is (.int .i64 0)) rfl rfl), trivial⟩
 intro u1 hb1
 simp only [List.take, List.drop, FinAll, Act.put, lA, lS, lZ]
 rintro _ rfl
 have hO1 := (hO0).trans (hb1.mono (hO0).size)
 have hT1 := TabV.below hT hb1
 refine hK1 _ _ ?_
 clear hK1 K1
 refine wp_seq_k fun K2 hK2 => ?_
 refine wp_plain_inv 6 (specs [Bts (pub), Tup2 (Is (.agg (ptc zeroE zeroE zeroE zeroE))) (Is (.int .i64 2)), Tup2 (Is (.agg (ptc zeroE zeroE zeroE zeroE))) (Is (.int .i64 2)), Is (.agg (ptc zeroE zeroE zeroE zeroE)), Is (.int .i64 2), Box u1.heap.size (ptc zeroE zeroE zeroE zeroE) 60]) (specs_stb ⟨Bts.stb _, Tup2.stb (Is.stb _) (Is.stb _), Tup2.stb (Is.stb _) (Is.stb _), Is.stb _, Is.stb _, Box.stb _ _ _, trivial⟩) (by kernel_rfl) ?_ ?_
 ·refine ⟨fun a w hB hfr hdep => Step.plain rfl (dMove (R := Bts (pub)) rfl (use (hfr 0 (by kernel_rfl)) ((Bts.stb _) _ _ _ hB ((Bts.stb _) _ _ _ hb1 hp)))),
   fun a w hB hfr hdep => Step.plain rfl (Does.call 30 #[(a.eval (.tmp 14))] (by kernel_rfl) (h11 _ w (TabV.below hT1 hB) (hdep 0 14 (by kernel_rfl)))),
   fun a w hB hfr hdep => Step.plain rfl (dMove (R := Tup2 (Is (.agg (ptc zeroE zeroE zeroE zeroE))) (Is (.int .i64 2))) rfl (hdep 1 15 (by kernel_rfl))),
   fun a w hB hfr hdep => Step.plain rfl (dExt0 rfl (hdep 2 13 (by kernel_rfl))),
   fun a w hB hfr hdep => Step.plain rfl (dExt1 rfl (hdep 2 13 (by kernel_rfl))),
   fun a w hB hfr hdep => Step.plain rfl (dAlloc29 hB.size rfl), trivial⟩
 intro u2 hb2
 simp only [List.take, List.drop, FinAll, Act.put, lA, lS, lZ]
 rintro v14_2 h14_2 v15_2 h15_2 v13_2 h13_2 _ rfl _ rfl _ ⟨g7_2, rfl, l7_2, m7_2⟩
 refine wpList_store_row rfl 60 (.tmp 7) (.tmp 16) rfl _ (ptc zeroE zeroE zeroE zeroE) rfl rfl 60 _ m7_2 info29 rfl (ptc_one _ _ _ _) ?_
 have n7_2 := setRow_heap _ _ _ (ptc zeroE zeroE zeroE zeroE) _ _ m7_2
 replace hb2 := setRow_below hb2 l7_2 (ptc zeroE zeroE zeroE zeroE)
 generalize hw2_1 : u2.setRow g7_2 (ptc zeroE zeroE zeroE zeroE) = u2_1 at n7_2 hb2  ⊢
 clear hw2_1 m7_2
 refine wpList_assign rfl rfl rfl ?_
 simp only [Act.put, Act.eval, Array.getD_eq_getD_getElem?, List.getElem?_toArray, List.getElem?_cons_succ, List.getElem?_cons_zero, Option.getD_some, lA, lS, lZ]
 have hO2 := (hO1).trans (hb2.mono (hO1).size)
 have lwn7_2 := Nat.le_trans (hO1).size l7_2
 have hT2 := TabV.below hT1 hb2
 refine hK2 _ _ ?_
 clear hK2 K2
 refine wp_seq_k fun KO1 hKO1 => ?_
 refine wp_seq_k fun K3 hK3 => ?_
 refine wp_plain_inv 2 (specs [Is (.int .i64 2), Is (.bool true)]) (specs_stb ⟨Is.stb _, Is.stb _, trivial⟩) (by kernel_rfl) ?_ ?_
 ·refine ⟨fun a w hB hfr hdep => Step.plain rfl (dMove (R := Is (.int .i64 2)) rfl (hfr 8 (by kernel_rfl))),
   fun a w hB hfr hdep => Step.plain rfl (Does.run _ (run_binO rfl (hdep 0 18 (by kernel_rfl)) rfl (by kernel_rfl)) rfl), trivial⟩
 intro u3 hb3
 simp only [List.take, List.drop, FinAll, Act.put, lA, lS, lZ]
 rintro _ rfl _ rfl
 have hO3 := (hO2).trans (hb3.mono (hO2).size)
 have n7_2__3 := block_below hb3 (lt_of_heap n7_2) n7_2
 have hT3 := TabV.below hT2 hb3
 refine hK3 _ _ ?_
 clear hK3 K3
 refine wp_cond_true rfl ?_
 refine wp_seq_k fun K4 hK4 => ?_
 refine wp_plain_inv 1 (specs [Is (.int .i64 11)]) (specs_stb ⟨Is.stb _, trivial⟩) (by kernel_rfl) ?_ ?_
 ·refine ⟨fun a w hB hfr hdep => Step.plain rfl (dAssign (R := Is (.int .i64 11)) rfl rfl), trivial⟩
 intro u4 hb4
 simp only [List.take, List.drop, FinAll, Act.put, lA, lS, lZ]
 rintro _ rfl
 have hO4 := (hO3).trans (hb4.mono (hO3).size)
 have n7_2__4 := block_below hb4 (lt_of_heap n7_2__3) n7_2__3
 have hT4 := TabV.below hT3 hb4
 refine hK4 _ _ ?_
 clear hK4 K4
 refine wp_ret ?_
 simp only [Exit.then]
 refine bodyPost_ret (results_tmp rfl _ _ _) rfl ?_
 exact ⟨_, rfl, hO4, rfl⟩
theorem verLen {pub m sig : List Nat} {v1 v2 v3 : Value} (w : World) (hT : TabV w) (hp : Bts pub v1 w) (hm : Bts m v2 w) (hs : Bts sig v3 w) (hpub : Dig pub) (hmd : Dig m) (hsig : Dig sig) {P : Pt} (hP : P.enc = valD pub) (hp32 : pub.length = 32) {n : Nat} (hsn : sig.length = n) (hn : n ≠ 64) : Ret 11 #[v1, v2, v3] w (Is (.int .i64 10)) := by
 unfold Ret
 have hO0 : Below w.heap.size w w := Below.refl _ _
 go_enter Tryz.func11, Tryz.ntmps11
 refine wp_seq_k fun K1 hK1 => ?_
 refine wp_plain_inv 1 (specs [Is (.int .i64 0)]) (specs_stb ⟨Is.stb _, trivial⟩) (by kernel_rfl) ?_ ?_
 ·refine ⟨fun a w hB hfr hdep => Step.plain rfl (dAssign (R := Is (.int .i64 0)) rfl rfl), trivial⟩
 intro u1 hb1
 simp only [List.take, List.drop, FinAll, Act.put, lA, lS, lZ]
 rintro _ rfl
 have hO1 := (hO0).trans (hb1.mono (hO0).size)
 have hT1 := TabV.below hT hb1
 refine hK1 _ _ ?_
 clear hK1 K1
 refine wp_seq_k fun K2 hK2 => ?_
 refine wp_plain_inv 6 (specs [Bts (pub), Tup2 (PtV (P)) (Is (.int .i64 0)), Tup2 (PtV (P)) (Is (.int .i64 0)), PtV (P), Is (.int .i64 0), Box u1.heap.size (ptc zeroE zeroE zeroE zeroE) 60]) (specs_stb ⟨Bts.stb _, Tup2.stb (PtV.stb _) (Is.stb _), Tup2.stb (PtV.stb _) (Is.stb _), PtV.stb _, Is.stb _, Box.stb _ _ _, trivial⟩) (by kernel_rfl) ?_ ?_
 ·refine ⟨fun a w hB hfr hdep => Step.plain rfl (dMove (R := Bts (pub)) rfl (use (hfr 0 (by kernel_rfl)) ((Bts.stb _) _ _ _ hB ((Bts.stb _) _ _ _ hb1 hp)))),
   fun a w hB hfr hdep => Step.plain rfl (Does.call 30 #[(a.eval (.tmp 14))] (by kernel_rfl) (cReadPt w (TabV.below hT1 hB).2 (hdep 0 14 (by kernel_rfl)) hp32 hpub hP)),
   fun a w hB hfr hdep => Step.plain rfl (dMove (R := Tup2 (PtV (P)) (Is (.int .i64 0))) rfl (hdep 1 15 (by kernel_rfl))),
   fun a w hB hfr hdep => Step.plain rfl (dExt0 rfl (hdep 2 13 (by kernel_rfl))),
   fun a w hB hfr hdep => Step.plain rfl (dExt1 rfl (hdep 2 13 (by kernel_rfl))),
   fun a w hB hfr hdep => Step.plain rfl (dAlloc29 hB.size rfl), trivial⟩
 intro u2 hb2
 simp only [List.take, List.drop, FinAll, Act.put, lA, lS, lZ]
 rintro v14_2 h14_2 v15_2 h15_2 v13_2 h13_2 _ ⟨e16_2, rfl, x16_2⟩ _ rfl _ ⟨g7_2, rfl, l7_2, m7_2⟩
 refine wpList_store_row rfl 60 (.tmp 7) (.tmp 16) rfl _ (e16_2) rfl rfl 60 _ m7_2 (by rw [cellsP_size x16_2]; exact info29) (by rw [cellsP_size x16_2]; rfl) (cellsP_one x16_2) ?_
 have n7_2 := setRow_heap _ _ _ (e16_2) _ _ m7_2
 replace hb2 := setRow_below hb2 l7_2 (e16_2)
 generalize hw2_1 : u2.setRow g7_2 (e16_2) = u2_1 at n7_2 hb2  ⊢
 clear hw2_1 m7_2
 refine wpList_assign rfl rfl rfl ?_
 simp only [Act.put, Act.eval, Array.getD_eq_getD_getElem?, List.getElem?_toArray, List.getElem?_cons_succ, List.getElem?_cons_zero, Option.getD_some, lA, lS, lZ]
 have hO2 := (hO1).trans (hb2.mono (hO1).size)
 have lwn7_2 := Nat.le_trans (hO1).size l7_2
 have hT2 := TabV.below hT1 hb2
 refine hK2 _ _ ?_
 clear hK2 K2
 refine wp_seq_k fun KO1 hKO1 => ?_
 refine wp_seq_k fun K3 hK3 => ?_
 refine wp_plain_inv 2 (specs [Is (.int .i64 0), Is (.bool false)]) (specs_stb ⟨Is.stb _, Is.stb _, trivial⟩) (by kernel_rfl) ?_ ?_
 ·refine ⟨fun a w hB hfr hdep => Step.plain rfl (dMove (R := Is (.int .i64 0)) rfl (hfr 8 (by kernel_rfl))),
   fun a w hB hfr hdep => Step.plain rfl (Does.run _ (run_binO rfl (hdep 0 18 (by kernel_rfl)) rfl (by kernel_rfl)) rfl), trivial⟩
 intro u3 hb3
 simp only [List.take, List.drop, FinAll, Act.put, lA, lS, lZ]
 rintro _ rfl _ rfl
 have hO3 := (hO2).trans (hb3.mono (hO2).size)
 have n7_2__3 := block_below hb3 (lt_of_heap n7_2) n7_2
 have hT3 := TabV.below hT2 hb3
 refine hK3 _ _ ?_
 clear hK3 K3
 refine wp_cond_false rfl ?_
 refine wp_skip ?_
 refine hKO1 _ _ ?_
 clear hKO1 KO1
 refine wp_seq_k fun KO2 hKO2 => ?_
 refine wp_seq_k fun K4 hK4 => ?_
 refine wp_plain_inv 3 (specs [Bts (sig), Is (.int .i64 (n : Int)), Is (.bool true)]) (specs_stb ⟨Bts.stb _, Is.stb _, Is.stb _, trivial⟩) (by kernel_rfl) ?_ ?_
 ·refine ⟨fun a w hB hfr hdep => Step.plain rfl (dMove (R := Bts (sig)) rfl (use (hfr 2 (by kernel_rfl)) ((Bts.stb _) _ _ _ hB ((Bts.stb _) _ _ _ hb3 ((Bts.stb _) _ _ _ hb2 ((Bts.stb _) _ _ _ hb1 hs)))))),
   fun a w hB hfr hdep => Step.plain rfl (dLenB hsn rfl (hdep 0 20 (by kernel_rfl))),
   fun a w hB hfr hdep => Step.plain rfl (Does.run _ (run_neqN (n := n) (k := 64) hn rfl (hdep 1 21 (by kernel_rfl)) rfl) rfl), trivial⟩
 intro u4 hb4
 simp only [List.take, List.drop, FinAll, Act.put, lA, lS, lZ]
 rintro v20_4 h20_4 _ rfl _ rfl
 have hO4 := (hO3).trans (hb4.mono (hO3).size)
 have n7_2__4 := block_below hb4 (lt_of_heap n7_2__3) n7_2__3
 have hT4 := TabV.below hT3 hb4
 refine hK4 _ _ ?_
 clear hK4 K4
 refine wp_cond_true rfl ?_
 refine wp_seq_k fun K5 hK5 => ?_
 refine wp_plain_inv 1 (specs [Is (.int .i64 10)]) (specs_stb ⟨Is.stb _, trivial⟩) (by kernel_rfl) ?_ ?_
 ·refine ⟨fun a w hB hfr hdep => Step.plain rfl (dAssign (R := Is (.int .i64 10)) rfl rfl), trivial⟩
 intro u5 hb5
 simp only [List.take, List.drop, FinAll, Act.put, lA, lS, lZ]
 rintro _ rfl
 have hO5 := (hO4).trans (hb5.mono (hO4).size)
 have n7_2__5 := block_below hb5 (lt_of_heap n7_2__4) n7_2__4
 have hT5 := TabV.below hT4 hb5
 refine hK5 _ _ ?_
 clear hK5 K5
 refine wp_ret ?_
 simp only [Exit.then]
 refine bodyPost_ret (results_tmp rfl _ _ _) rfl ?_
 exact ⟨_, rfl, hO5, rfl⟩
theorem verIs {pub m sig : List Nat} {v1 v2 v3 : Value} (w : World) (hT : TabV w) (hp : Bts pub v1 w) (hm : Bts m v2 w) (hs : Bts sig v3 w) (hpub : Dig pub) (hmd : Dig m) (hsig : Dig sig) {P : Pt} (hP : P.enc = valD pub) (hp32 : pub.length = 32) (hs64 : sig.length = 64) (hIs : isL ((sig).drop 32) = false) : Ret 11 #[v1, v2, v3] w (Is (.int .i64 10)) := by
 unfold Ret
 have hO0 : Below w.heap.size w w := Below.refl _ _
 go_enter Tryz.func11, Tryz.ntmps11
 refine wp_seq_k fun K1 hK1 => ?_
 refine wp_plain_inv 1 (specs [Is (.int .i64 0)]) (specs_stb ⟨Is.stb _, trivial⟩) (by kernel_rfl) ?_ ?_
 ·refine ⟨fun a w hB hfr hdep => Step.plain rfl (dAssign (R := Is (.int .i64 0)) rfl rfl), trivial⟩
 intro u1 hb1
 simp only [List.take, List.drop, FinAll, Act.put, lA, lS, lZ]
 rintro _ rfl
 have hO1 := (hO0).trans (hb1.mono (hO0).size)
 have hT1 := TabV.below hT hb1
 refine hK1 _ _ ?_
 clear hK1 K1
 refine wp_seq_k fun K2 hK2 => ?_
 refine wp_plain_inv 6 (specs [Bts (pub), Tup2 (PtV (P)) (Is (.int .i64 0)), Tup2 (PtV (P)) (Is (.int .i64 0)), PtV (P), Is (.int .i64 0), Box u1.heap.size (ptc zeroE zeroE zeroE zeroE) 60]) (specs_stb ⟨Bts.stb _, Tup2.stb (PtV.stb _) (Is.stb _), Tup2.stb (PtV.stb _) (Is.stb _), PtV.stb _, Is.stb _, Box.stb _ _ _, trivial⟩) (by kernel_rfl) ?_ ?_
 ·refine ⟨fun a w hB hfr hdep => Step.plain rfl (dMove (R := Bts (pub)) rfl (use (hfr 0 (by kernel_rfl)) ((Bts.stb _) _ _ _ hB ((Bts.stb _) _ _ _ hb1 hp)))),
   fun a w hB hfr hdep => Step.plain rfl (Does.call 30 #[(a.eval (.tmp 14))] (by kernel_rfl) (cReadPt w (TabV.below hT1 hB).2 (hdep 0 14 (by kernel_rfl)) hp32 hpub hP)),
   fun a w hB hfr hdep => Step.plain rfl (dMove (R := Tup2 (PtV (P)) (Is (.int .i64 0))) rfl (hdep 1 15 (by kernel_rfl))),
   fun a w hB hfr hdep => Step.plain rfl (dExt0 rfl (hdep 2 13 (by kernel_rfl))),
   fun a w hB hfr hdep => Step.plain rfl (dExt1 rfl (hdep 2 13 (by kernel_rfl))),
   fun a w hB hfr hdep => Step.plain rfl (dAlloc29 hB.size rfl), trivial⟩
 intro u2 hb2
 simp only [List.take, List.drop, FinAll, Act.put, lA, lS, lZ]
 rintro v14_2 h14_2 v15_2 h15_2 v13_2 h13_2 _ ⟨e16_2, rfl, x16_2⟩ _ rfl _ ⟨g7_2, rfl, l7_2, m7_2⟩
 refine wpList_store_row rfl 60 (.tmp 7) (.tmp 16) rfl _ (e16_2) rfl rfl 60 _ m7_2 (by rw [cellsP_size x16_2]; exact info29) (by rw [cellsP_size x16_2]; rfl) (cellsP_one x16_2) ?_
 have n7_2 := setRow_heap _ _ _ (e16_2) _ _ m7_2
 replace hb2 := setRow_below hb2 l7_2 (e16_2)
 generalize hw2_1 : u2.setRow g7_2 (e16_2) = u2_1 at n7_2 hb2  ⊢
 clear hw2_1 m7_2
 refine wpList_assign rfl rfl rfl ?_
 simp only [Act.put, Act.eval, Array.getD_eq_getD_getElem?, List.getElem?_toArray, List.getElem?_cons_succ, List.getElem?_cons_zero, Option.getD_some, lA, lS, lZ]
 have hO2 := (hO1).trans (hb2.mono (hO1).size)
 have lwn7_2 := Nat.le_trans (hO1).size l7_2
 have hT2 := TabV.below hT1 hb2
 refine hK2 _ _ ?_
 clear hK2 K2
 refine wp_seq_k fun KO1 hKO1 => ?_
 refine wp_seq_k fun K3 hK3 => ?_
 refine wp_plain_inv 2 (specs [Is (.int .i64 0), Is (.bool false)]) (specs_stb ⟨Is.stb _, Is.stb _, trivial⟩) (by kernel_rfl) ?_ ?_
 ·refine ⟨fun a w hB hfr hdep => Step.plain rfl (dMove (R := Is (.int .i64 0)) rfl (hfr 8 (by kernel_rfl))),
   fun a w hB hfr hdep => Step.plain rfl (Does.run _ (run_binO rfl (hdep 0 18 (by kernel_rfl)) rfl (by kernel_rfl)) rfl), trivial⟩
 intro u3 hb3
 simp only [List.take, List.drop, FinAll, Act.put, lA, lS, lZ]
 rintro _ rfl _ rfl
 have hO3 := (hO2).trans (hb3.mono (hO2).size)
 have n7_2__3 := block_below hb3 (lt_of_heap n7_2) n7_2
 have hT3 := TabV.below hT2 hb3
 refine hK3 _ _ ?_
 clear hK3 K3
 refine wp_cond_false rfl ?_
 refine wp_skip ?_
 refine hKO1 _ _ ?_
 clear hKO1 KO1
 refine wp_seq_k fun KO2 hKO2 => ?_
 refine wp_seq_k fun K4 hK4 => ?_
 refine wp_plain_inv 3 (specs [Bts (sig), Is (.int .i64 64), Is (.bool false)]) (specs_stb ⟨Bts.stb _, Is.stb _, Is.stb _, trivial⟩) (by kernel_rfl) ?_ ?_
 ·refine ⟨fun a w hB hfr hdep => Step.plain rfl (dMove (R := Bts (sig)) rfl (use (hfr 2 (by kernel_rfl)) ((Bts.stb _) _ _ _ hB ((Bts.stb _) _ _ _ hb3 ((Bts.stb _) _ _ _ hb2 ((Bts.stb _) _ _ _ hb1 hs)))))),
   fun a w hB hfr hdep => Step.plain rfl (dLenB hs64 rfl (hdep 0 20 (by kernel_rfl))),
   fun a w hB hfr hdep => Step.plain rfl (Does.run _ (run_binO rfl (hdep 1 21 (by kernel_rfl)) rfl (by kernel_rfl)) rfl), trivial⟩
 intro u4 hb4
 simp only [List.take, List.drop, FinAll, Act.put, lA, lS, lZ]
 rintro v20_4 h20_4 _ rfl _ rfl
 have hO4 := (hO3).trans (hb4.mono (hO3).size)
 have n7_2__4 := block_below hb4 (lt_of_heap n7_2__3) n7_2__3
 have hT4 := TabV.below hT3 hb4
 refine hK4 _ _ ?_
 clear hK4 K4
 refine wp_cond_false rfl ?_
 refine wp_skip ?_
 refine hKO2 _ _ ?_
 clear hKO2 KO2
 refine wp_seq_k fun K5 hK5 => ?_
 refine wp_plain_inv 7 (specs [Bts (sig), Tup2 (Bts ((sig).take 32)) (Bts ((sig).drop 32)), Tup2 (Bts ((sig).take 32)) (Bts ((sig).drop 32)), Bts ((sig).take 32), Bts ((sig).drop 32), Bts ((sig).take 32), Bts ((sig).drop 32)]) (specs_stb ⟨Bts.stb _, Tup2.stb (Bts.stb _) (Bts.stb _), Tup2.stb (Bts.stb _) (Bts.stb _), Bts.stb _, Bts.stb _, Bts.stb _, Bts.stb _, trivial⟩) (by kernel_rfl) ?_ ?_
 ·refine ⟨fun a w hB hfr hdep => Step.plain rfl (dMove (R := Bts (sig)) rfl (use (hfr 2 (by kernel_rfl)) ((Bts.stb _) _ _ _ hB ((Bts.stb _) _ _ _ hb4 ((Bts.stb _) _ _ _ hb3 ((Bts.stb _) _ _ _ hb2 ((Bts.stb _) _ _ _ hb1 hs))))))),
   fun a w hB hfr hdep => Step.plain rfl (Does.call 31 #[(a.eval (.tmp 24))] (by kernel_rfl) (cHalves w (hdep 0 24 (by kernel_rfl)) hs64)),
   fun a w hB hfr hdep => Step.plain rfl (dMove (R := Tup2 (Bts ((sig).take 32)) (Bts ((sig).drop 32))) rfl (hdep 1 25 (by kernel_rfl))),
   fun a w hB hfr hdep => Step.plain rfl (dExt0 rfl (hdep 2 23 (by kernel_rfl))),
   fun a w hB hfr hdep => Step.plain rfl (dExt1 rfl (hdep 2 23 (by kernel_rfl))),
   fun a w hB hfr hdep => Step.plain rfl (dAssign (R := Bts ((sig).take 32)) rfl (hdep 3 26 (by kernel_rfl))),
   fun a w hB hfr hdep => Step.plain rfl (dAssign (R := Bts ((sig).drop 32)) rfl (hdep 4 27 (by kernel_rfl))), trivial⟩
 intro u5 hb5
 simp only [List.take, List.drop, FinAll, Act.put, lA, lS, lZ]
 rintro v24_5 h24_5 v25_5 h25_5 v23_5 h23_5 v26_5 h26_5 v27_5 h27_5 v9_5 h9_5 v10_5 h10_5
 have hO5 := (hO4).trans (hb5.mono (hO4).size)
 have n7_2__5 := block_below hb5 (lt_of_heap n7_2__4) n7_2__4
 have hT5 := TabV.below hT4 hb5
 refine hK5 _ _ ?_
 clear hK5 K5
 refine wp_seq_k fun KO3 hKO3 => ?_
 refine wp_seq_k fun K6 hK6 => ?_
 refine wp_plain_inv 3 (specs [Bts ((sig).drop 32), Is (.bool false), Is (.bool true)]) (specs_stb ⟨Bts.stb _, Is.stb _, Is.stb _, trivial⟩) (by kernel_rfl) ?_ ?_
 ·refine ⟨fun a w hB hfr hdep => Step.plain rfl (dMove (R := Bts ((sig).drop 32)) rfl (use (hfr 10 (by kernel_rfl)) ((Bts.stb _) _ _ _ hB h10_5))),
   fun a w hB hfr hdep => Step.plain rfl (Does.call 32 #[(a.eval (.tmp 28))] (by kernel_rfl) (cIsB hIs w (TabV.below hT5 hB).1 (hdep 0 28 (by kernel_rfl)) (Dig.drop hsig _))),
   fun a w hB hfr hdep => Step.plain rfl (Does.run _ (run_notO rfl (hdep 1 29 (by kernel_rfl))) rfl), trivial⟩
 intro u6 hb6
 simp only [List.take, List.drop, FinAll, Act.put, lA, lS, lZ]
 rintro v28_6 h28_6 _ rfl _ rfl
 have hO6 := (hO5).trans (hb6.mono (hO5).size)
 have n7_2__6 := block_below hb6 (lt_of_heap n7_2__5) n7_2__5
 have hT6 := TabV.below hT5 hb6
 refine hK6 _ _ ?_
 clear hK6 K6
 refine wp_cond_true rfl ?_
 refine wp_seq_k fun K7 hK7 => ?_
 refine wp_plain_inv 1 (specs [Is (.int .i64 10)]) (specs_stb ⟨Is.stb _, trivial⟩) (by kernel_rfl) ?_ ?_
 ·refine ⟨fun a w hB hfr hdep => Step.plain rfl (dAssign (R := Is (.int .i64 10)) rfl rfl), trivial⟩
 intro u7 hb7
 simp only [List.take, List.drop, FinAll, Act.put, lA, lS, lZ]
 rintro _ rfl
 have hO7 := (hO6).trans (hb7.mono (hO6).size)
 have n7_2__7 := block_below hb7 (lt_of_heap n7_2__6) n7_2__6
 have hT7 := TabV.below hT6 hb7
 refine hK7 _ _ ?_
 clear hK7 K7
 refine wp_ret ?_
 simp only [Exit.then]
 refine bodyPost_ret (results_tmp rfl _ _ _) rfl ?_
 exact ⟨_, rfl, hO7, rfl⟩
theorem verNo {pub m sig : List Nat} {v1 v2 v3 : Value} (w : World) (hT : TabV w) (hp : Bts pub v1 w) (hm : Bts m v2 w) (hs : Bts sig v3 w) (hpub : Dig pub) (hmd : Dig m) (hsig : Dig sig) {P : Pt} (hP : P.enc = valD pub) (hp32 : pub.length = 32) (hs64 : sig.length = 64) (hml : m.length ≤ 50000) (hIs : isL ((sig).drop 32) = true) (hE : decide ((sig).take 32 = digs 32 (Pt.enc ((bp.nm (valD ((sig).drop 32))).add ((P.nm (valD (digs 32 (numL ((sig).take 32 ++ pub ++ m))))).neg)))) = false) : Ret 11 #[v1, v2, v3] w (Is (.int .i64 10)) := by
 unfold Ret
 have hO0 : Below w.heap.size w w := Below.refl _ _
 go_enter Tryz.func11, Tryz.ntmps11
 refine wp_seq_k fun K1 hK1 => ?_
 refine wp_plain_inv 1 (specs [Is (.int .i64 0)]) (specs_stb ⟨Is.stb _, trivial⟩) (by kernel_rfl) ?_ ?_
 ·refine ⟨fun a w hB hfr hdep => Step.plain rfl (dAssign (R := Is (.int .i64 0)) rfl rfl), trivial⟩
 intro u1 hb1
 simp only [List.take, List.drop, FinAll, Act.put, lA, lS, lZ]
 rintro _ rfl
 have hO1 := (hO0).trans (hb1.mono (hO0).size)
 have hT1 := TabV.below hT hb1
 refine hK1 _ _ ?_
 clear hK1 K1
 refine wp_seq_k fun K2 hK2 => ?_
 refine wp_plain_inv 6 (specs [Bts (pub), Tup2 (PtV (P)) (Is (.int .i64 0)), Tup2 (PtV (P)) (Is (.int .i64 0)), PtV (P), Is (.int .i64 0), Box u1.heap.size (ptc zeroE zeroE zeroE zeroE) 60]) (specs_stb ⟨Bts.stb _, Tup2.stb (PtV.stb _) (Is.stb _), Tup2.stb (PtV.stb _) (Is.stb _), PtV.stb _, Is.stb _, Box.stb _ _ _, trivial⟩) (by kernel_rfl) ?_ ?_
 ·refine ⟨fun a w hB hfr hdep => Step.plain rfl (dMove (R := Bts (pub)) rfl (use (hfr 0 (by kernel_rfl)) ((Bts.stb _) _ _ _ hB ((Bts.stb _) _ _ _ hb1 hp)))),
   fun a w hB hfr hdep => Step.plain rfl (Does.call 30 #[(a.eval (.tmp 14))] (by kernel_rfl) (cReadPt w (TabV.below hT1 hB).2 (hdep 0 14 (by kernel_rfl)) hp32 hpub hP)),
   fun a w hB hfr hdep => Step.plain rfl (dMove (R := Tup2 (PtV (P)) (Is (.int .i64 0))) rfl (hdep 1 15 (by kernel_rfl))),
   fun a w hB hfr hdep => Step.plain rfl (dExt0 rfl (hdep 2 13 (by kernel_rfl))),
   fun a w hB hfr hdep => Step.plain rfl (dExt1 rfl (hdep 2 13 (by kernel_rfl))),
   fun a w hB hfr hdep => Step.plain rfl (dAlloc29 hB.size rfl), trivial⟩
 intro u2 hb2
 simp only [List.take, List.drop, FinAll, Act.put, lA, lS, lZ]
 rintro v14_2 h14_2 v15_2 h15_2 v13_2 h13_2 _ ⟨e16_2, rfl, x16_2⟩ _ rfl _ ⟨g7_2, rfl, l7_2, m7_2⟩
 refine wpList_store_row rfl 60 (.tmp 7) (.tmp 16) rfl _ (e16_2) rfl rfl 60 _ m7_2 (by rw [cellsP_size x16_2]; exact info29) (by rw [cellsP_size x16_2]; rfl) (cellsP_one x16_2) ?_
 have n7_2 := setRow_heap _ _ _ (e16_2) _ _ m7_2
 replace hb2 := setRow_below hb2 l7_2 (e16_2)
 generalize hw2_1 : u2.setRow g7_2 (e16_2) = u2_1 at n7_2 hb2  ⊢
 clear hw2_1 m7_2
 refine wpList_assign rfl rfl rfl ?_
 simp only [Act.put, Act.eval, Array.getD_eq_getD_getElem?, List.getElem?_toArray, List.getElem?_cons_succ, List.getElem?_cons_zero, Option.getD_some, lA, lS, lZ]
 have hO2 := (hO1).trans (hb2.mono (hO1).size)
 have lwn7_2 := Nat.le_trans (hO1).size l7_2
 have hT2 := TabV.below hT1 hb2
 refine hK2 _ _ ?_
 clear hK2 K2
 refine wp_seq_k fun KO1 hKO1 => ?_
 refine wp_seq_k fun K3 hK3 => ?_
 refine wp_plain_inv 2 (specs [Is (.int .i64 0), Is (.bool false)]) (specs_stb ⟨Is.stb _, Is.stb _, trivial⟩) (by kernel_rfl) ?_ ?_
 ·refine ⟨fun a w hB hfr hdep => Step.plain rfl (dMove (R := Is (.int .i64 0)) rfl (hfr 8 (by kernel_rfl))),
   fun a w hB hfr hdep => Step.plain rfl (Does.run _ (run_binO rfl (hdep 0 18 (by kernel_rfl)) rfl (by kernel_rfl)) rfl), trivial⟩
 intro u3 hb3
 simp only [List.take, List.drop, FinAll, Act.put, lA, lS, lZ]
 rintro _ rfl _ rfl
 have hO3 := (hO2).trans (hb3.mono (hO2).size)
 have n7_2__3 := block_below hb3 (lt_of_heap n7_2) n7_2
 have hT3 := TabV.below hT2 hb3
 refine hK3 _ _ ?_
 clear hK3 K3
 refine wp_cond_false rfl ?_
 refine wp_skip ?_
 refine hKO1 _ _ ?_
 clear hKO1 KO1
 refine wp_seq_k fun KO2 hKO2 => ?_
 refine wp_seq_k fun K4 hK4 => ?_
 refine wp_plain_inv 3 (specs [Bts (sig), Is (.int .i64 64), Is (.bool false)]) (specs_stb ⟨Bts.stb _, Is.stb _, Is.stb _, trivial⟩) (by kernel_rfl) ?_ ?_
 ·refine ⟨fun a w hB hfr hdep => Step.plain rfl (dMove (R := Bts (sig)) rfl (use (hfr 2 (by kernel_rfl)) ((Bts.stb _) _ _ _ hB ((Bts.stb _) _ _ _ hb3 ((Bts.stb _) _ _ _ hb2 ((Bts.stb _) _ _ _ hb1 hs)))))),
   fun a w hB hfr hdep => Step.plain rfl (dLenB hs64 rfl (hdep 0 20 (by kernel_rfl))),
   fun a w hB hfr hdep => Step.plain rfl (Does.run _ (run_binO rfl (hdep 1 21 (by kernel_rfl)) rfl (by kernel_rfl)) rfl), trivial⟩
 intro u4 hb4
 simp only [List.take, List.drop, FinAll, Act.put, lA, lS, lZ]
 rintro v20_4 h20_4 _ rfl _ rfl
 have hO4 := (hO3).trans (hb4.mono (hO3).size)
 have n7_2__4 := block_below hb4 (lt_of_heap n7_2__3) n7_2__3
 have hT4 := TabV.below hT3 hb4
 refine hK4 _ _ ?_
 clear hK4 K4
 refine wp_cond_false rfl ?_
 refine wp_skip ?_
 refine hKO2 _ _ ?_
 clear hKO2 KO2
 refine wp_seq_k fun K5 hK5 => ?_
 refine wp_plain_inv 7 (specs [Bts (sig), Tup2 (Bts ((sig).take 32)) (Bts ((sig).drop 32)), Tup2 (Bts ((sig).take 32)) (Bts ((sig).drop 32)), Bts ((sig).take 32), Bts ((sig).drop 32), Bts ((sig).take 32), Bts ((sig).drop 32)]) (specs_stb ⟨Bts.stb _, Tup2.stb (Bts.stb _) (Bts.stb _), Tup2.stb (Bts.stb _) (Bts.stb _), Bts.stb _, Bts.stb _, Bts.stb _, Bts.stb _, trivial⟩) (by kernel_rfl) ?_ ?_
 ·refine ⟨fun a w hB hfr hdep => Step.plain rfl (dMove (R := Bts (sig)) rfl (use (hfr 2 (by kernel_rfl)) ((Bts.stb _) _ _ _ hB ((Bts.stb _) _ _ _ hb4 ((Bts.stb _) _ _ _ hb3 ((Bts.stb _) _ _ _ hb2 ((Bts.stb _) _ _ _ hb1 hs))))))),
   fun a w hB hfr hdep => Step.plain rfl (Does.call 31 #[(a.eval (.tmp 24))] (by kernel_rfl) (cHalves w (hdep 0 24 (by kernel_rfl)) hs64)),
   fun a w hB hfr hdep => Step.plain rfl (dMove (R := Tup2 (Bts ((sig).take 32)) (Bts ((sig).drop 32))) rfl (hdep 1 25 (by kernel_rfl))),
   fun a w hB hfr hdep => Step.plain rfl (dExt0 rfl (hdep 2 23 (by kernel_rfl))),
   fun a w hB hfr hdep => Step.plain rfl (dExt1 rfl (hdep 2 23 (by kernel_rfl))),
   fun a w hB hfr hdep => Step.plain rfl (dAssign (R := Bts ((sig).take 32)) rfl (hdep 3 26 (by kernel_rfl))),
   fun a w hB hfr hdep => Step.plain rfl (dAssign (R := Bts ((sig).drop 32)) rfl (hdep 4 27 (by kernel_rfl))), trivial⟩
 intro u5 hb5
 simp only [List.take, List.drop, FinAll, Act.put, lA, lS, lZ]
 rintro v24_5 h24_5 v25_5 h25_5 v23_5 h23_5 v26_5 h26_5 v27_5 h27_5 v9_5 h9_5 v10_5 h10_5
 have hO5 := (hO4).trans (hb5.mono (hO4).size)
 have n7_2__5 := block_below hb5 (lt_of_heap n7_2__4) n7_2__4
 have hT5 := TabV.below hT4 hb5
 refine hK5 _ _ ?_
 clear hK5 K5
 refine wp_seq_k fun KO3 hKO3 => ?_
 refine wp_seq_k fun K6 hK6 => ?_
 refine wp_plain_inv 3 (specs [Bts ((sig).drop 32), Is (.bool true), Is (.bool false)]) (specs_stb ⟨Bts.stb _, Is.stb _, Is.stb _, trivial⟩) (by kernel_rfl) ?_ ?_
 ·refine ⟨fun a w hB hfr hdep => Step.plain rfl (dMove (R := Bts ((sig).drop 32)) rfl (use (hfr 10 (by kernel_rfl)) ((Bts.stb _) _ _ _ hB h10_5))),
   fun a w hB hfr hdep => Step.plain rfl (Does.call 32 #[(a.eval (.tmp 28))] (by kernel_rfl) (cIsB hIs w (TabV.below hT5 hB).1 (hdep 0 28 (by kernel_rfl)) (Dig.drop hsig _))),
   fun a w hB hfr hdep => Step.plain rfl (Does.run _ (run_notO rfl (hdep 1 29 (by kernel_rfl))) rfl), trivial⟩
 intro u6 hb6
 simp only [List.take, List.drop, FinAll, Act.put, lA, lS, lZ]
 rintro v28_6 h28_6 _ rfl _ rfl
 have hO6 := (hO5).trans (hb6.mono (hO5).size)
 have n7_2__6 := block_below hb6 (lt_of_heap n7_2__5) n7_2__5
 have hT6 := TabV.below hT5 hb6
 refine hK6 _ _ ?_
 clear hK6 K6
 refine wp_cond_false rfl ?_
 refine wp_skip ?_
 refine hKO3 _ _ ?_
 clear hKO3 KO3
 refine wp_seq_k fun K7 hK7 => ?_
 refine wp_plain_inv 6 (specs [Bts ((sig).take 32), Bts (pub), Bts (m), Parts 3 ((sig).take 32) (pub) (m), Own u6.heap.size (digs 32 (numL ((sig).take 32 ++ pub ++ m))), Own u6.heap.size (digs 32 (numL ((sig).take 32 ++ pub ++ m)))]) (specs_stb ⟨Bts.stb _, Bts.stb _, Bts.stb _, Parts.stb _ _ _ _, Own.stb _ _, Own.stb _ _, trivial⟩) (by kernel_rfl) ?_ ?_
 ·refine ⟨fun a w hB hfr hdep => Step.plain rfl (dMove (R := Bts ((sig).take 32)) rfl (use (hfr 9 (by kernel_rfl)) ((Bts.stb _) _ _ _ hB ((Bts.stb _) _ _ _ hb6 h9_5)))),
   fun a w hB hfr hdep => Step.plain rfl (dMove (R := Bts (pub)) rfl (use (hfr 0 (by kernel_rfl)) ((Bts.stb _) _ _ _ hB ((Bts.stb _) _ _ _ hb6 ((Bts.stb _) _ _ _ hb5 ((Bts.stb _) _ _ _ hb4 ((Bts.stb _) _ _ _ hb3 ((Bts.stb _) _ _ _ hb2 ((Bts.stb _) _ _ _ hb1 hp))))))))),
   fun a w hB hfr hdep => Step.plain rfl (dMove (R := Bts (m)) rfl (use (hfr 1 (by kernel_rfl)) ((Bts.stb _) _ _ _ hB ((Bts.stb _) _ _ _ hb6 ((Bts.stb _) _ _ _ hb5 ((Bts.stb _) _ _ _ hb4 ((Bts.stb _) _ _ _ hb3 ((Bts.stb _) _ _ _ hb2 ((Bts.stb _) _ _ _ hb1 hm))))))))),
   fun a w hB hfr hdep => Step.plain rfl (dParts3 rfl (hdep 0 31 (by kernel_rfl)) (hdep 1 32 (by kernel_rfl)) (hdep 2 33 (by kernel_rfl))),
   fun a w hB hfr hdep => Step.plain rfl (Does.call 13 #[(a.eval (.tmp 34))] (by kernel_rfl) (ownLo' hB.size (cNumber3 w (TabV.below hT6 hB).1 (hdep 3 34 (by kernel_rfl)) (Dig.take hsig _) hpub hmd (by rw [List.length_take]; omega) (by rw [List.length_take]; omega)))),
   fun a w hB hfr hdep => Step.plain rfl (dAssign (R := Own u6.heap.size (digs 32 (numL ((sig).take 32 ++ pub ++ m)))) rfl (hdep 4 35 (by kernel_rfl))), trivial⟩
 intro u7 hb7
 simp only [List.take, List.drop, FinAll, Act.put, lA, lS, lZ]
 rintro v31_7 h31_7 v32_7 h32_7 v33_7 h33_7 v34_7 h34_7 v35_7 h35_7 v11_7 h11_7
 have hO7 := (hO6).trans (hb7.mono (hO6).size)
 have n7_2__7 := block_below hb7 (lt_of_heap n7_2__6) n7_2__6
 have hT7 := TabV.below hT6 hb7
 refine hK7 _ _ ?_
 clear hK7 K7
 refine wp_seq_k fun K8 hK8 => ?_
 refine wp_region_inv 9 (specs [PtV (bp), Bts ((sig).drop 32), PtV ((bp).nm (valD ((sig).drop 32))), PtV (P), Own u6.heap.size (digs 32 (numL ((sig).take 32 ++ pub ++ m))), PtV ((P).nm (valD (digs 32 (numL ((sig).take 32 ++ pub ++ m))))), PtV (((P).nm (valD (digs 32 (numL ((sig).take 32 ++ pub ++ m))))).neg), PtV (((bp).nm (valD ((sig).drop 32))).add (((P).nm (valD (digs 32 (numL ((sig).take 32 ++ pub ++ m))))).neg)), Box u7.heap.size (ptc zeroE zeroE zeroE zeroE) 60]) (by kernel_rfl) (specs_stb ⟨PtV.stb _, Bts.stb _, PtV.stb _, PtV.stb _, Own.stb _ _, PtV.stb _, PtV.stb _, PtV.stb _, Box.stb _ _ _, trivial⟩) (by kernel_rfl) ?_ ?_
 ·refine ⟨fun a w hB hfr hdep => Step.plain rfl (Does.call 33 #[] (by kernel_rfl) (cBase w (TabV.below hT7 hB).1.t)),
   fun a w hB hfr hdep => Step.plain rfl (dMove (R := Bts ((sig).drop 32)) rfl (use (hfr 10 (by kernel_rfl)) ((Bts.stb _) _ _ _ hB ((Bts.stb _) _ _ _ hb7 ((Bts.stb _) _ _ _ hb6 h10_5))))),
   fun a w hB hfr hdep => Step.plain rfl (Does.call 34 #[(a.eval (.tmp 36)), (a.eval (.tmp 37))] (by kernel_rfl) (cMulP w w (TabV.below hT7 hB).1.t (hdep 0 36 (by kernel_rfl)) (hdep 1 37 (by kernel_rfl)) (Dig.drop hsig _) (by rw [List.length_drop]; omega))),
   fun a w hB hfr hdep => Step.plain rfl (dLoadPt x16_2 (block_below hB (lt_of_heap n7_2__7) n7_2__7) rfl (hfr 7 (by kernel_rfl)) (fun _ h => h)),
   fun a w hB hfr hdep => Step.plain rfl (dMove (R := Own u6.heap.size (digs 32 (numL ((sig).take 32 ++ pub ++ m)))) rfl (use (hfr 11 (by kernel_rfl)) ((Own.stb _ _) _ _ _ hB h11_7))),
   fun a w hB hfr hdep => Step.plain rfl (Does.call 34 #[(a.eval (.tmp 39)), (a.eval (.tmp 40))] (by kernel_rfl) (cMulP w w (TabV.below hT7 hB).1.t (hdep 3 39 (by kernel_rfl)) (Own.bts (hdep 4 40 (by kernel_rfl)) (by first | decide | (rw [digs_len]; omega) | (rw [SEED_len]; omega) | (unfold PUB; rw [digs_len]; omega) | simp)) (digs_dig _ _) (by first | decide | (rw [digs_len]; omega) | simp))),
   fun a w hB hfr hdep => Step.plain rfl (Does.call 36 #[(a.eval (.tmp 41))] (by kernel_rfl) (cNeg w w (hdep 5 41 (by kernel_rfl)))),
   fun a w hB hfr hdep => Step.plain rfl (Does.call 35 #[(a.eval (.tmp 38)), (a.eval (.tmp 42))] (by kernel_rfl) (cPAdd w w w (TabV.below hT7 hB).1.t (hdep 2 38 (by kernel_rfl)) (hdep 6 42 (by kernel_rfl)))),
   fun a w hB hfr hdep => Step.plain rfl (dAlloc29 hB.size rfl), trivial⟩
 intro u8 hb8
 simp only [List.take, List.drop, FinAll, Act.put, lA, lS, lZ]
 rintro v36_8 h36_8 v37_8 h37_8 v38_8 h38_8 v39_8 h39_8 v40_8 h40_8 v41_8 h41_8 v42_8 h42_8 _ ⟨e43_8, rfl, x43_8⟩ _ ⟨g12_8, rfl, l12_8, m12_8⟩
 refine wpList_store_row rfl 60 (.tmp 12) (.tmp 43) rfl _ (e43_8) rfl rfl 60 _ m12_8 (by rw [cellsP_size x43_8]; exact info29) (by rw [cellsP_size x43_8]; rfl) (cellsP_one x43_8) ?_
 have n12_8 := setRow_heap _ _ _ (e43_8) _ _ m12_8
 replace hb8 := setRow_below hb8 l12_8 (e43_8)
 generalize hw8_1 : u8.setRow g12_8 (e43_8) = u8_1 at n12_8 hb8  ⊢
 clear hw8_1 m12_8
 have hO8 := (hO7).trans (hb8.mono (hO7).size)
 have n7_2__8 := block_below hb8 (lt_of_heap n7_2__7) n7_2__7
 have lwn12_8 := Nat.le_trans (hO7).size l12_8
 have hT8 := TabV.below hT7 hb8
 refine hK8 _ _ ?_
 clear hK8 K8
 refine wp_seq_k fun KO4 hKO4 => ?_
 refine wp_seq_k fun K9 hK9 => ?_
 refine wp_plain_inv 5 (specs [Bts ((sig).take 32), PtV (((bp).nm (valD ((sig).drop 32))).add (((P).nm (valD (digs 32 (numL ((sig).take 32 ++ pub ++ m))))).neg)), Own u8_1.heap.size (digs 32 (Pt.enc (((bp).nm (valD ((sig).drop 32))).add (((P).nm (valD (digs 32 (numL ((sig).take 32 ++ pub ++ m))))).neg)))), Is (.bool false), Is (.bool true)]) (specs_stb ⟨Bts.stb _, PtV.stb _, Own.stb _ _, Is.stb _, Is.stb _, trivial⟩) (by kernel_rfl) ?_ ?_
 ·refine ⟨fun a w hB hfr hdep => Step.plain rfl (dMove (R := Bts ((sig).take 32)) rfl (use (hfr 9 (by kernel_rfl)) ((Bts.stb _) _ _ _ hB ((Bts.stb _) _ _ _ hb8 ((Bts.stb _) _ _ _ hb7 ((Bts.stb _) _ _ _ hb6 h9_5)))))),
   fun a w hB hfr hdep => Step.plain rfl (dLoadPt x43_8 (block_below hB (lt_of_heap n12_8) n12_8) rfl (hfr 12 (by kernel_rfl)) (fun _ h => h)),
   fun a w hB hfr hdep => Step.plain rfl (Does.call 38 #[(a.eval (.tmp 45))] (by kernel_rfl) (ownLo hB.size (cPBytes w w (hdep 1 45 (by kernel_rfl))))),
   fun a w hB hfr hdep => Step.plain rfl (Does.call 37 #[(a.eval (.tmp 44)), (a.eval (.tmp 46))] (by kernel_rfl) (cEqualB hE w (hdep 0 44 (by kernel_rfl)) (Own.bts (hdep 2 46 (by kernel_rfl)) (by first | decide | (rw [digs_len]; omega) | (rw [SEED_len]; omega) | (unfold PUB; rw [digs_len]; omega) | simp)) (Dig.take hsig _) (digs_dig _ _))),
   fun a w hB hfr hdep => Step.plain rfl (Does.run _ (run_notO rfl (hdep 3 47 (by kernel_rfl))) rfl), trivial⟩
 intro u9 hb9
 simp only [List.take, List.drop, FinAll, Act.put, lA, lS, lZ]
 rintro v44_9 h44_9 v45_9 h45_9 v46_9 h46_9 _ rfl _ rfl
 have hO9 := (hO8).trans (hb9.mono (hO8).size)
 have n7_2__9 := block_below hb9 (lt_of_heap n7_2__8) n7_2__8
 have n12_8__9 := block_below hb9 (lt_of_heap n12_8) n12_8
 have hT9 := TabV.below hT8 hb9
 refine hK9 _ _ ?_
 clear hK9 K9
 refine wp_cond_true rfl ?_
 refine wp_seq_k fun K10 hK10 => ?_
 refine wp_plain_inv 1 (specs [Is (.int .i64 10)]) (specs_stb ⟨Is.stb _, trivial⟩) (by kernel_rfl) ?_ ?_
 ·refine ⟨fun a w hB hfr hdep => Step.plain rfl (dAssign (R := Is (.int .i64 10)) rfl rfl), trivial⟩
 intro u10 hb10
 simp only [List.take, List.drop, FinAll, Act.put, lA, lS, lZ]
 rintro _ rfl
 have hO10 := (hO9).trans (hb10.mono (hO9).size)
 have n7_2__10 := block_below hb10 (lt_of_heap n7_2__9) n7_2__9
 have n12_8__10 := block_below hb10 (lt_of_heap n12_8__9) n12_8__9
 have hT10 := TabV.below hT9 hb10
 refine hK10 _ _ ?_
 clear hK10 K10
 refine wp_ret ?_
 simp only [Exit.then]
 refine bodyPost_ret (results_tmp rfl _ _ _) rfl ?_
 exact ⟨_, rfl, hO10, rfl⟩
theorem verOk {pub m sig : List Nat} {v1 v2 v3 : Value} (w : World) (hT : TabV w) (hp : Bts pub v1 w) (hm : Bts m v2 w) (hs : Bts sig v3 w) (hpub : Dig pub) (hmd : Dig m) (hsig : Dig sig) {P : Pt} (hP : P.enc = valD pub) (hp32 : pub.length = 32) (hs64 : sig.length = 64) (hml : m.length ≤ 50000) (hIs : isL ((sig).drop 32) = true) (hE : decide ((sig).take 32 = digs 32 (Pt.enc ((bp.nm (valD ((sig).drop 32))).add ((P.nm (valD (digs 32 (numL ((sig).take 32 ++ pub ++ m))))).neg)))) = true) : Ret 11 #[v1, v2, v3] w (Is (.int .i64 0)) := by
 unfold Ret
 have hO0 : Below w.heap.size w w := Below.refl _ _
 go_enter Tryz.func11, Tryz.ntmps11
 refine wp_seq_k fun K1 hK1 => ?_
 refine wp_plain_inv 1 (specs [Is (.int .i64 0)]) (specs_stb ⟨Is.stb _, trivial⟩) (by kernel_rfl) ?_ ?_
 ·refine ⟨fun a w hB hfr hdep => Step.plain rfl (dAssign (R := Is (.int .i64 0)) rfl rfl), trivial⟩
 intro u1 hb1
 simp only [List.take, List.drop, FinAll, Act.put, lA, lS, lZ]
 rintro _ rfl
 have hO1 := (hO0).trans (hb1.mono (hO0).size)
 have hT1 := TabV.below hT hb1
 refine hK1 _ _ ?_
 clear hK1 K1
 refine wp_seq_k fun K2 hK2 => ?_
 refine wp_plain_inv 6 (specs [Bts (pub), Tup2 (PtV (P)) (Is (.int .i64 0)), Tup2 (PtV (P)) (Is (.int .i64 0)), PtV (P), Is (.int .i64 0), Box u1.heap.size (ptc zeroE zeroE zeroE zeroE) 60]) (specs_stb ⟨Bts.stb _, Tup2.stb (PtV.stb _) (Is.stb _), Tup2.stb (PtV.stb _) (Is.stb _), PtV.stb _, Is.stb _, Box.stb _ _ _, trivial⟩) (by kernel_rfl) ?_ ?_
 ·refine ⟨fun a w hB hfr hdep => Step.plain rfl (dMove (R := Bts (pub)) rfl (use (hfr 0 (by kernel_rfl)) ((Bts.stb _) _ _ _ hB ((Bts.stb _) _ _ _ hb1 hp)))),
   fun a w hB hfr hdep => Step.plain rfl (Does.call 30 #[(a.eval (.tmp 14))] (by kernel_rfl) (cReadPt w (TabV.below hT1 hB).2 (hdep 0 14 (by kernel_rfl)) hp32 hpub hP)),
   fun a w hB hfr hdep => Step.plain rfl (dMove (R := Tup2 (PtV (P)) (Is (.int .i64 0))) rfl (hdep 1 15 (by kernel_rfl))),
   fun a w hB hfr hdep => Step.plain rfl (dExt0 rfl (hdep 2 13 (by kernel_rfl))),
   fun a w hB hfr hdep => Step.plain rfl (dExt1 rfl (hdep 2 13 (by kernel_rfl))),
   fun a w hB hfr hdep => Step.plain rfl (dAlloc29 hB.size rfl), trivial⟩
 intro u2 hb2
 simp only [List.take, List.drop, FinAll, Act.put, lA, lS, lZ]
 rintro v14_2 h14_2 v15_2 h15_2 v13_2 h13_2 _ ⟨e16_2, rfl, x16_2⟩ _ rfl _ ⟨g7_2, rfl, l7_2, m7_2⟩
 refine wpList_store_row rfl 60 (.tmp 7) (.tmp 16) rfl _ (e16_2) rfl rfl 60 _ m7_2 (by rw [cellsP_size x16_2]; exact info29) (by rw [cellsP_size x16_2]; rfl) (cellsP_one x16_2) ?_
 have n7_2 := setRow_heap _ _ _ (e16_2) _ _ m7_2
 replace hb2 := setRow_below hb2 l7_2 (e16_2)
 generalize hw2_1 : u2.setRow g7_2 (e16_2) = u2_1 at n7_2 hb2  ⊢
 clear hw2_1 m7_2
 refine wpList_assign rfl rfl rfl ?_
 simp only [Act.put, Act.eval, Array.getD_eq_getD_getElem?, List.getElem?_toArray, List.getElem?_cons_succ, List.getElem?_cons_zero, Option.getD_some, lA, lS, lZ]
 have hO2 := (hO1).trans (hb2.mono (hO1).size)
 have lwn7_2 := Nat.le_trans (hO1).size l7_2
 have hT2 := TabV.below hT1 hb2
 refine hK2 _ _ ?_
 clear hK2 K2
 refine wp_seq_k fun KO1 hKO1 => ?_
 refine wp_seq_k fun K3 hK3 => ?_
 refine wp_plain_inv 2 (specs [Is (.int .i64 0), Is (.bool false)]) (specs_stb ⟨Is.stb _, Is.stb _, trivial⟩) (by kernel_rfl) ?_ ?_
 ·refine ⟨fun a w hB hfr hdep => Step.plain rfl (dMove (R := Is (.int .i64 0)) rfl (hfr 8 (by kernel_rfl))),
   fun a w hB hfr hdep => Step.plain rfl (Does.run _ (run_binO rfl (hdep 0 18 (by kernel_rfl)) rfl (by kernel_rfl)) rfl), trivial⟩
 intro u3 hb3
 simp only [List.take, List.drop, FinAll, Act.put, lA, lS, lZ]
 rintro _ rfl _ rfl
 have hO3 := (hO2).trans (hb3.mono (hO2).size)
 have n7_2__3 := block_below hb3 (lt_of_heap n7_2) n7_2
 have hT3 := TabV.below hT2 hb3
 refine hK3 _ _ ?_
 clear hK3 K3
 refine wp_cond_false rfl ?_
 refine wp_skip ?_
 refine hKO1 _ _ ?_
 clear hKO1 KO1
 refine wp_seq_k fun KO2 hKO2 => ?_
 refine wp_seq_k fun K4 hK4 => ?_
 refine wp_plain_inv 3 (specs [Bts (sig), Is (.int .i64 64), Is (.bool false)]) (specs_stb ⟨Bts.stb _, Is.stb _, Is.stb _, trivial⟩) (by kernel_rfl) ?_ ?_
 ·refine ⟨fun a w hB hfr hdep => Step.plain rfl (dMove (R := Bts (sig)) rfl (use (hfr 2 (by kernel_rfl)) ((Bts.stb _) _ _ _ hB ((Bts.stb _) _ _ _ hb3 ((Bts.stb _) _ _ _ hb2 ((Bts.stb _) _ _ _ hb1 hs)))))),
   fun a w hB hfr hdep => Step.plain rfl (dLenB hs64 rfl (hdep 0 20 (by kernel_rfl))),
   fun a w hB hfr hdep => Step.plain rfl (Does.run _ (run_binO rfl (hdep 1 21 (by kernel_rfl)) rfl (by kernel_rfl)) rfl), trivial⟩
 intro u4 hb4
 simp only [List.take, List.drop, FinAll, Act.put, lA, lS, lZ]
 rintro v20_4 h20_4 _ rfl _ rfl
 have hO4 := (hO3).trans (hb4.mono (hO3).size)
 have n7_2__4 := block_below hb4 (lt_of_heap n7_2__3) n7_2__3
 have hT4 := TabV.below hT3 hb4
 refine hK4 _ _ ?_
 clear hK4 K4
 refine wp_cond_false rfl ?_
 refine wp_skip ?_
 refine hKO2 _ _ ?_
 clear hKO2 KO2
 refine wp_seq_k fun K5 hK5 => ?_
 refine wp_plain_inv 7 (specs [Bts (sig), Tup2 (Bts ((sig).take 32)) (Bts ((sig).drop 32)), Tup2 (Bts ((sig).take 32)) (Bts ((sig).drop 32)), Bts ((sig).take 32), Bts ((sig).drop 32), Bts ((sig).take 32), Bts ((sig).drop 32)]) (specs_stb ⟨Bts.stb _, Tup2.stb (Bts.stb _) (Bts.stb _), Tup2.stb (Bts.stb _) (Bts.stb _), Bts.stb _, Bts.stb _, Bts.stb _, Bts.stb _, trivial⟩) (by kernel_rfl) ?_ ?_
 ·refine ⟨fun a w hB hfr hdep => Step.plain rfl (dMove (R := Bts (sig)) rfl (use (hfr 2 (by kernel_rfl)) ((Bts.stb _) _ _ _ hB ((Bts.stb _) _ _ _ hb4 ((Bts.stb _) _ _ _ hb3 ((Bts.stb _) _ _ _ hb2 ((Bts.stb _) _ _ _ hb1 hs))))))),
   fun a w hB hfr hdep => Step.plain rfl (Does.call 31 #[(a.eval (.tmp 24))] (by kernel_rfl) (cHalves w (hdep 0 24 (by kernel_rfl)) hs64)),
   fun a w hB hfr hdep => Step.plain rfl (dMove (R := Tup2 (Bts ((sig).take 32)) (Bts ((sig).drop 32))) rfl (hdep 1 25 (by kernel_rfl))),
   fun a w hB hfr hdep => Step.plain rfl (dExt0 rfl (hdep 2 23 (by kernel_rfl))),
   fun a w hB hfr hdep => Step.plain rfl (dExt1 rfl (hdep 2 23 (by kernel_rfl))),
   fun a w hB hfr hdep => Step.plain rfl (dAssign (R := Bts ((sig).take 32)) rfl (hdep 3 26 (by kernel_rfl))),
   fun a w hB hfr hdep => Step.plain rfl (dAssign (R := Bts ((sig).drop 32)) rfl (hdep 4 27 (by kernel_rfl))), trivial⟩
 intro u5 hb5
 simp only [List.take, List.drop, FinAll, Act.put, lA, lS, lZ]
 rintro v24_5 h24_5 v25_5 h25_5 v23_5 h23_5 v26_5 h26_5 v27_5 h27_5 v9_5 h9_5 v10_5 h10_5
 have hO5 := (hO4).trans (hb5.mono (hO4).size)
 have n7_2__5 := block_below hb5 (lt_of_heap n7_2__4) n7_2__4
 have hT5 := TabV.below hT4 hb5
 refine hK5 _ _ ?_
 clear hK5 K5
 refine wp_seq_k fun KO3 hKO3 => ?_
 refine wp_seq_k fun K6 hK6 => ?_
 refine wp_plain_inv 3 (specs [Bts ((sig).drop 32), Is (.bool true), Is (.bool false)]) (specs_stb ⟨Bts.stb _, Is.stb _, Is.stb _, trivial⟩) (by kernel_rfl) ?_ ?_
 ·refine ⟨fun a w hB hfr hdep => Step.plain rfl (dMove (R := Bts ((sig).drop 32)) rfl (use (hfr 10 (by kernel_rfl)) ((Bts.stb _) _ _ _ hB h10_5))),
   fun a w hB hfr hdep => Step.plain rfl (Does.call 32 #[(a.eval (.tmp 28))] (by kernel_rfl) (cIsB hIs w (TabV.below hT5 hB).1 (hdep 0 28 (by kernel_rfl)) (Dig.drop hsig _))),
   fun a w hB hfr hdep => Step.plain rfl (Does.run _ (run_notO rfl (hdep 1 29 (by kernel_rfl))) rfl), trivial⟩
 intro u6 hb6
 simp only [List.take, List.drop, FinAll, Act.put, lA, lS, lZ]
 rintro v28_6 h28_6 _ rfl _ rfl
 have hO6 := (hO5).trans (hb6.mono (hO5).size)
 have n7_2__6 := block_below hb6 (lt_of_heap n7_2__5) n7_2__5
 have hT6 := TabV.below hT5 hb6
 refine hK6 _ _ ?_
 clear hK6 K6
 refine wp_cond_false rfl ?_
 refine wp_skip ?_
 refine hKO3 _ _ ?_
 clear hKO3 KO3
 refine wp_seq_k fun K7 hK7 => ?_
 refine wp_plain_inv 6 (specs [Bts ((sig).take 32), Bts (pub), Bts (m), Parts 3 ((sig).take 32) (pub) (m), Own u6.heap.size (digs 32 (numL ((sig).take 32 ++ pub ++ m))), Own u6.heap.size (digs 32 (numL ((sig).take 32 ++ pub ++ m)))]) (specs_stb ⟨Bts.stb _, Bts.stb _, Bts.stb _, Parts.stb _ _ _ _, Own.stb _ _, Own.stb _ _, trivial⟩) (by kernel_rfl) ?_ ?_
 ·refine ⟨fun a w hB hfr hdep => Step.plain rfl (dMove (R := Bts ((sig).take 32)) rfl (use (hfr 9 (by kernel_rfl)) ((Bts.stb _) _ _ _ hB ((Bts.stb _) _ _ _ hb6 h9_5)))),
   fun a w hB hfr hdep => Step.plain rfl (dMove (R := Bts (pub)) rfl (use (hfr 0 (by kernel_rfl)) ((Bts.stb _) _ _ _ hB ((Bts.stb _) _ _ _ hb6 ((Bts.stb _) _ _ _ hb5 ((Bts.stb _) _ _ _ hb4 ((Bts.stb _) _ _ _ hb3 ((Bts.stb _) _ _ _ hb2 ((Bts.stb _) _ _ _ hb1 hp))))))))),
   fun a w hB hfr hdep => Step.plain rfl (dMove (R := Bts (m)) rfl (use (hfr 1 (by kernel_rfl)) ((Bts.stb _) _ _ _ hB ((Bts.stb _) _ _ _ hb6 ((Bts.stb _) _ _ _ hb5 ((Bts.stb _) _ _ _ hb4 ((Bts.stb _) _ _ _ hb3 ((Bts.stb _) _ _ _ hb2 ((Bts.stb _) _ _ _ hb1 hm))))))))),
   fun a w hB hfr hdep => Step.plain rfl (dParts3 rfl (hdep 0 31 (by kernel_rfl)) (hdep 1 32 (by kernel_rfl)) (hdep 2 33 (by kernel_rfl))),
   fun a w hB hfr hdep => Step.plain rfl (Does.call 13 #[(a.eval (.tmp 34))] (by kernel_rfl) (ownLo' hB.size (cNumber3 w (TabV.below hT6 hB).1 (hdep 3 34 (by kernel_rfl)) (Dig.take hsig _) hpub hmd (by rw [List.length_take]; omega) (by rw [List.length_take]; omega)))),
   fun a w hB hfr hdep => Step.plain rfl (dAssign (R := Own u6.heap.size (digs 32 (numL ((sig).take 32 ++ pub ++ m)))) rfl (hdep 4 35 (by kernel_rfl))), trivial⟩
 intro u7 hb7
 simp only [List.take, List.drop, FinAll, Act.put, lA, lS, lZ]
 rintro v31_7 h31_7 v32_7 h32_7 v33_7 h33_7 v34_7 h34_7 v35_7 h35_7 v11_7 h11_7
 have hO7 := (hO6).trans (hb7.mono (hO6).size)
 have n7_2__7 := block_below hb7 (lt_of_heap n7_2__6) n7_2__6
 have hT7 := TabV.below hT6 hb7
 refine hK7 _ _ ?_
 clear hK7 K7
 refine wp_seq_k fun K8 hK8 => ?_
 refine wp_region_inv 9 (specs [PtV (bp), Bts ((sig).drop 32), PtV ((bp).nm (valD ((sig).drop 32))), PtV (P), Own u6.heap.size (digs 32 (numL ((sig).take 32 ++ pub ++ m))), PtV ((P).nm (valD (digs 32 (numL ((sig).take 32 ++ pub ++ m))))), PtV (((P).nm (valD (digs 32 (numL ((sig).take 32 ++ pub ++ m))))).neg), PtV (((bp).nm (valD ((sig).drop 32))).add (((P).nm (valD (digs 32 (numL ((sig).take 32 ++ pub ++ m))))).neg)), Box u7.heap.size (ptc zeroE zeroE zeroE zeroE) 60]) (by kernel_rfl) (specs_stb ⟨PtV.stb _, Bts.stb _, PtV.stb _, PtV.stb _, Own.stb _ _, PtV.stb _, PtV.stb _, PtV.stb _, Box.stb _ _ _, trivial⟩) (by kernel_rfl) ?_ ?_
 ·refine ⟨fun a w hB hfr hdep => Step.plain rfl (Does.call 33 #[] (by kernel_rfl) (cBase w (TabV.below hT7 hB).1.t)),
   fun a w hB hfr hdep => Step.plain rfl (dMove (R := Bts ((sig).drop 32)) rfl (use (hfr 10 (by kernel_rfl)) ((Bts.stb _) _ _ _ hB ((Bts.stb _) _ _ _ hb7 ((Bts.stb _) _ _ _ hb6 h10_5))))),
   fun a w hB hfr hdep => Step.plain rfl (Does.call 34 #[(a.eval (.tmp 36)), (a.eval (.tmp 37))] (by kernel_rfl) (cMulP w w (TabV.below hT7 hB).1.t (hdep 0 36 (by kernel_rfl)) (hdep 1 37 (by kernel_rfl)) (Dig.drop hsig _) (by rw [List.length_drop]; omega))),
   fun a w hB hfr hdep => Step.plain rfl (dLoadPt x16_2 (block_below hB (lt_of_heap n7_2__7) n7_2__7) rfl (hfr 7 (by kernel_rfl)) (fun _ h => h)),
   fun a w hB hfr hdep => Step.plain rfl (dMove (R := Own u6.heap.size (digs 32 (numL ((sig).take 32 ++ pub ++ m)))) rfl (use (hfr 11 (by kernel_rfl)) ((Own.stb _ _) _ _ _ hB h11_7))),
   fun a w hB hfr hdep => Step.plain rfl (Does.call 34 #[(a.eval (.tmp 39)), (a.eval (.tmp 40))] (by kernel_rfl) (cMulP w w (TabV.below hT7 hB).1.t (hdep 3 39 (by kernel_rfl)) (Own.bts (hdep 4 40 (by kernel_rfl)) (by first | decide | (rw [digs_len]; omega) | (rw [SEED_len]; omega) | (unfold PUB; rw [digs_len]; omega) | simp)) (digs_dig _ _) (by first | decide | (rw [digs_len]; omega) | simp))),
   fun a w hB hfr hdep => Step.plain rfl (Does.call 36 #[(a.eval (.tmp 41))] (by kernel_rfl) (cNeg w w (hdep 5 41 (by kernel_rfl)))),
   fun a w hB hfr hdep => Step.plain rfl (Does.call 35 #[(a.eval (.tmp 38)), (a.eval (.tmp 42))] (by kernel_rfl) (cPAdd w w w (TabV.below hT7 hB).1.t (hdep 2 38 (by kernel_rfl)) (hdep 6 42 (by kernel_rfl)))),
   fun a w hB hfr hdep => Step.plain rfl (dAlloc29 hB.size rfl), trivial⟩
 intro u8 hb8
 simp only [List.take, List.drop, FinAll, Act.put, lA, lS, lZ]
 rintro v36_8 h36_8 v37_8 h37_8 v38_8 h38_8 v39_8 h39_8 v40_8 h40_8 v41_8 h41_8 v42_8 h42_8 _ ⟨e43_8, rfl, x43_8⟩ _ ⟨g12_8, rfl, l12_8, m12_8⟩
 refine wpList_store_row rfl 60 (.tmp 12) (.tmp 43) rfl _ (e43_8) rfl rfl 60 _ m12_8 (by rw [cellsP_size x43_8]; exact info29) (by rw [cellsP_size x43_8]; rfl) (cellsP_one x43_8) ?_
 have n12_8 := setRow_heap _ _ _ (e43_8) _ _ m12_8
 replace hb8 := setRow_below hb8 l12_8 (e43_8)
 generalize hw8_1 : u8.setRow g12_8 (e43_8) = u8_1 at n12_8 hb8  ⊢
 clear hw8_1 m12_8
 have hO8 := (hO7).trans (hb8.mono (hO7).size)
 have n7_2__8 := block_below hb8 (lt_of_heap n7_2__7) n7_2__7
 have lwn12_8 := Nat.le_trans (hO7).size l12_8
 have hT8 := TabV.below hT7 hb8
 refine hK8 _ _ ?_
 clear hK8 K8
 refine wp_seq_k fun KO4 hKO4 => ?_
 refine wp_seq_k fun K9 hK9 => ?_
 refine wp_plain_inv 5 (specs [Bts ((sig).take 32), PtV (((bp).nm (valD ((sig).drop 32))).add (((P).nm (valD (digs 32 (numL ((sig).take 32 ++ pub ++ m))))).neg)), Own u8_1.heap.size (digs 32 (Pt.enc (((bp).nm (valD ((sig).drop 32))).add (((P).nm (valD (digs 32 (numL ((sig).take 32 ++ pub ++ m))))).neg)))), Is (.bool true), Is (.bool false)]) (specs_stb ⟨Bts.stb _, PtV.stb _, Own.stb _ _, Is.stb _, Is.stb _, trivial⟩) (by kernel_rfl) ?_ ?_
 ·refine ⟨fun a w hB hfr hdep => Step.plain rfl (dMove (R := Bts ((sig).take 32)) rfl (use (hfr 9 (by kernel_rfl)) ((Bts.stb _) _ _ _ hB ((Bts.stb _) _ _ _ hb8 ((Bts.stb _) _ _ _ hb7 ((Bts.stb _) _ _ _ hb6 h9_5)))))),
   fun a w hB hfr hdep => Step.plain rfl (dLoadPt x43_8 (block_below hB (lt_of_heap n12_8) n12_8) rfl (hfr 12 (by kernel_rfl)) (fun _ h => h)),
   fun a w hB hfr hdep => Step.plain rfl (Does.call 38 #[(a.eval (.tmp 45))] (by kernel_rfl) (ownLo hB.size (cPBytes w w (hdep 1 45 (by kernel_rfl))))),
   fun a w hB hfr hdep => Step.plain rfl (Does.call 37 #[(a.eval (.tmp 44)), (a.eval (.tmp 46))] (by kernel_rfl) (cEqualB hE w (hdep 0 44 (by kernel_rfl)) (Own.bts (hdep 2 46 (by kernel_rfl)) (by first | decide | (rw [digs_len]; omega) | (rw [SEED_len]; omega) | (unfold PUB; rw [digs_len]; omega) | simp)) (Dig.take hsig _) (digs_dig _ _))),
   fun a w hB hfr hdep => Step.plain rfl (Does.run _ (run_notO rfl (hdep 3 47 (by kernel_rfl))) rfl), trivial⟩
 intro u9 hb9
 simp only [List.take, List.drop, FinAll, Act.put, lA, lS, lZ]
 rintro v44_9 h44_9 v45_9 h45_9 v46_9 h46_9 _ rfl _ rfl
 have hO9 := (hO8).trans (hb9.mono (hO8).size)
 have n7_2__9 := block_below hb9 (lt_of_heap n7_2__8) n7_2__8
 have n12_8__9 := block_below hb9 (lt_of_heap n12_8) n12_8
 have hT9 := TabV.below hT8 hb9
 refine hK9 _ _ ?_
 clear hK9 K9
 refine wp_cond_false rfl ?_
 refine wp_skip ?_
 refine hKO4 _ _ ?_
 clear hKO4 KO4
 refine wp_seq_k fun K10 hK10 => ?_
 refine wp_plain_inv 1 (specs [Is (.int .i64 0)]) (specs_stb ⟨Is.stb _, trivial⟩) (by kernel_rfl) ?_ ?_
 ·refine ⟨fun a w hB hfr hdep => Step.plain rfl (dAssign (R := Is (.int .i64 0)) rfl rfl), trivial⟩
 intro u10 hb10
 simp only [List.take, List.drop, FinAll, Act.put, lA, lS, lZ]
 rintro _ rfl
 have hO10 := (hO9).trans (hb10.mono (hO9).size)
 have n7_2__10 := block_below hb10 (lt_of_heap n7_2__9) n7_2__9
 have n12_8__10 := block_below hb10 (lt_of_heap n12_8__9) n12_8__9
 have hT10 := TabV.below hT9 hb10
 refine hK10 _ _ ?_
 clear hK10 K10
 refine wp_ret ?_
 refine bodyPost_ret (results_tmp rfl _ _ _) rfl ?_
 exact ⟨_, rfl, hO10, rfl⟩
end Go.Proofs.YtabgihjffjlfiaaGreatDoor
set_option linter.unusedVariables false
namespace Go.Proofs.YtabgihjffjlfiaaGreatDoor
open Go.RowKit Go.Sort Go.BigFrame EN
set_option maxRecDepth 100000
set_option maxHeartbeats 2000000
theorem SEED_len (l : List Nat) : (SEED l).length = 32 := by
 unfold SEED
 rw [List.length_append, List.length_take, List.length_replicate]; omega
end Go.Proofs.YtabgihjffjlfiaaGreatDoor
set_option linter.unusedVariables false
namespace Go.Proofs.YtabgihjffjlfiaaGreatDoor
open Go.RowKit Go.Sort Go.BigFrame EN
set_option maxRecDepth 100000
set_option maxHeartbeats 2000000
def LV : List Nat := [157, 97, 177, 157, 239, 253, 90, 96, 186, 132, 74, 244, 146, 236, 44, 196, 68, 73, 197, 105, 123, 50, 105, 25, 112, 59, 172, 3, 28, 174, 127, 96]
theorem SH_LV : SH LV = [53, 124, 131, 134, 79, 40, 51, 203, 66, 122, 46, 241, 192, 10, 1, 60, 253, 255, 39, 104, 217, 128, 192, 163, 165, 32, 240, 6, 144, 77, 233, 15, 155, 79, 10, 254, 40, 11, 116, 106, 119, 134, 132, 231, 84, 66, 80, 32, 87, 183, 71, 58, 3, 240, 143, 150, 245, 163, 142, 146, 135, 224, 31, 143] := by kernel_rfl
theorem PRE_LV : PRE LV = [155, 79, 10, 254, 40, 11, 116, 106, 119, 134, 132, 231, 84, 66, 80, 32, 87, 183, 71, 58, 3, 240, 143, 150, 245, 163, 142, 146, 135, 224, 31, 143] := by unfold PRE; rw [SH_LV]; rfl
theorem SH_PRE : SH (PRE LV ++ []) = [182, 177, 156, 216, 224, 66, 111, 89, 131, 250, 17, 45, 137, 161, 67, 170, 151, 218, 184, 188, 93, 235, 141, 91, 98, 83, 201, 40, 182, 82, 114, 244, 4, 64, 152, 194, 169, 144, 3, 156, 222, 91, 106, 72, 24, 223, 11, 251, 110, 64, 220, 93, 238, 84, 36, 128, 50, 150, 35, 35, 231, 1, 53, 45] := by rw [PRE_LV]; kernel_rfl
def aN : Nat := 36144925721603087658594284515452164870581325872720374094707712194495455132720
def rN : Nat := 2015312323900227545039973048451112962192803170366412514267238242679089760755
theorem SEC_LV : valD (SEC LV) = aN := by unfold SEC; rw [SH_LV]; kernel_rfl
theorem RN_LV : RN LV [] = rN := by unfold RN numL; rw [SH_PRE]; kernel_rfl
def chk (x y X Y Z T : Nat) : Bool := Nat.beq (x * Z % pp) (X % pp) && Nat.beq (y * Z % pp) (Y % pp)
theorem at_chk {n x y : Nat} (hn : n < 2 ^ 256) (h : qmul 256 n bxN byN 1 btN 0 1 1 0 (chk x y) = true) : (bp.nm n).x = fe x ∧ (bp.nm n).y = fe y := by
 obtain ⟨X, Y, Z, T, hr, e⟩ := qmul_spec (chk x y) 256 n hn bp_rep zero_rep
 rw [h] at e
 rw [Pt.zero_add] at hr
 have e' := e.symm
 unfold chk at e'
 rw [Bool.and_eq_true] at e'
 have e1 := fe_eq (Nat.eq_of_beq_eq_true e'.1)
 have e2 := fe_eq (Nat.eq_of_beq_eq_true e'.2)
 rw [fe_mul] at e1 e2
 obtain ⟨_, hZ, hx, hy, _⟩ := hr
 exact ⟨mul_cancel hZ (by rw [hx, e1]), mul_cancel hZ (by rw [hy, e2])⟩
def axN : Nat := 38815646466658113194383306759739515082307681141926459231621296960732224964046
def ayN : Nat := 11903303657706407974989296177215005343713679411332034699907763981919547054807
def sxN : Nat := 44370630452101398467924320556439323233869374150616132215183787387252341590058
def syN : Nat := 38448863731492799660668882834560725606410712239157980760146247592118262650597
theorem enc_of {p : Pt} {x y E : Nat} (h : p.x = fe x ∧ p.y = fe y) (h2 : y % pp + t255 * (x % pp % 2) = E) : p.enc = E := by
 unfold Pt.enc
 rw [h.1, h.2, fe_val, fe_val]; exact h2
theorem a_at : (bp.nm aN).x = fe axN ∧ (bp.nm aN).y = fe ayN := at_chk (by decide) (by kernel_rfl)
theorem r_at : (bp.nm rN).x = fe sxN ∧ (bp.nm rN).y = fe syN := at_chk (by decide) (by kernel_rfl)
theorem a_enc : (bp.nm aN).enc = 11903303657706407974989296177215005343713679411332034699907763981919547054807 := enc_of a_at (by decide)
theorem a_enc_d : digs 32 11903303657706407974989296177215005343713679411332034699907763981919547054807 = [215, 90, 152, 1, 130, 177, 10, 183, 213, 75, 254, 211, 201, 100, 7, 58, 14, 225, 114, 243, 218, 166, 35, 37, 175, 2, 26, 104, 247, 7, 81, 26] := by decide
theorem PUB_of {n E : Nat} {s : List Nat} (h : valD (SEC s) = n) (h2 : (bp.nm n).enc = E) : PUB s = digs 32 E := by unfold PUB PT; rw [h, h2]
theorem PUB_LV : PUB LV = [215, 90, 152, 1, 130, 177, 10, 183, 213, 75, 254, 211, 201, 100, 7, 58, 14, 225, 114, 243, 218, 166, 35, 37, 175, 2, 26, 104, 247, 7, 81, 26] := by
 rw [PUB_of SEC_LV a_enc, a_enc_d]
theorem r_enc : (bp.nm rN).enc = 38448863731492799660668882834560725606410712239157980760146247592118262650597 := enc_of r_at (by decide)
theorem r_enc_d : digs 32 38448863731492799660668882834560725606410712239157980760146247592118262650597 = [229, 86, 67, 0, 195, 96, 172, 114, 144, 134, 226, 204, 128, 110, 130, 138, 132, 135, 127, 30, 184, 229, 217, 116, 216, 115, 224, 101, 34, 73, 1, 85] := by decide
theorem RB_of {n E : Nat} {s m : List Nat} (h : RN s m = n) (h2 : (bp.nm n).enc = E) : RB s m = digs 32 E := by unfold RB; rw [h, h2]
theorem RB_LV : RB LV [] = [229, 86, 67, 0, 195, 96, 172, 114, 144, 134, 226, 204, 128, 110, 130, 138, 132, 135, 127, 30, 184, 229, 217, 116, 216, 115, 224, 101, 34, 73, 1, 85] := by
 rw [RB_of RN_LV r_enc, r_enc_d]
theorem SIG_LV (k : Nat) (hk : k < 32) : (SIG LV []).getD k 0 = (RB LV []).getD k 0 := by
 unfold SIG
 rw [List.getD_eq_getElem?_getD, List.getD_eq_getElem?_getD, List.getElem?_append_left (by unfold RB; rw [digs_len]; exact hk)]
theorem LV_dig : Dig LV := dig_lt (by decide)
end Go.Proofs.YtabgihjffjlfiaaGreatDoor
set_option linter.unusedVariables false
namespace Go.Proofs.YtabgihjffjlfiaaGreatDoor
open Go.RowKit Go.Sort Go.BigFrame EN
set_option maxRecDepth 100000
set_option maxHeartbeats 2000000
theorem cell_cur {w : World} {g v : Nat} {cur : Array Value} {l : List Nat} (h : w.heap[g]? = some (.cells cur 5 (0, 0))) (hc : ∀ i, i < l.length → cur[i]? = some (.int .u8 ((l.getD i 0 : Nat) : Int))) (i : Nat) (hi : i < l.length) (hv : l.getD i 0 = v) : w.cell? ⟨g, i, none⟩ = some (.int .u8 (v : Int)) := by
 rw [cell_of_row w g i _ 5 _ h, hc i hi, hv]
theorem SIG_len (s m : List Nat) : (SIG s m).length = 64 := by
 unfold SIG RB
 rw [List.length_append, digs_len, digs_len]
theorem PUB_len (s : List Nat) : (PUB s).length = 32 := by
 unfold PUB
 rw [digs_len]
theorem tupLo {f : FuncId} {args : Array Value} {w : World} {l : List Nat} {lo : Nat} {R : Value → World → Prop} (hlo : lo ≤ w.heap.size) (h : Ret f args w (Tup2 (Own w.heap.size l) R)) : Ret f args w (Tup2 (Own lo l) R) :=
 h.mono fun e w' ⟨v, h1, h2, a, b, h3, ⟨g, h4, h5, h6⟩, h7⟩ => ⟨v, h1, h2, a, b, h3, ⟨g, h4, by omega, h6⟩, h7⟩
theorem tupLoC {f : FuncId} {args : Array Value} {w : World} {l : List Nat} {lo : Nat} {R : Value → World → Prop} (hlo : lo ≤ w.heap.size) (h : Ret f args w (Tup2 (OwnC w.heap.size l) R)) : Ret f args w (Tup2 (OwnC lo l) R) :=
 h.mono fun e w' ⟨v, h1, h2, a, b, h3, h4, h7⟩ => ⟨v, h1, h2, a, b, h3, h4.lo hlo, h7⟩
theorem dLV {a : Act} {o : Oper} {w : World} {lo : Nat} (hlo : lo ≤ w.heap.size) (ho : o.op = .buildSlice 22 32 #[(0, .const (.int .u8 157)), (1, .const (.int .u8 97)), (2, .const (.int .u8 177)), (3, .const (.int .u8 157)), (4, .const (.int .u8 239)), (5, .const (.int .u8 253)), (6, .const (.int .u8 90)), (7, .const (.int .u8 96)), (8, .const (.int .u8 186)), (9, .const (.int .u8 132)), (10, .const (.int .u8 74)), (11, .const (.int .u8 244)), (12, .const (.int .u8 146)), (13, .const (.int .u8 236)), (14, .const (.int .u8 44)), (15, .const (.int .u8 196)), (16, .const (.int .u8 68)), (17, .const (.int .u8 73)), (18, .const (.int .u8 197)), (19, .const (.int .u8 105)), (20, .const (.int .u8 123)), (21, .const (.int .u8 50)), (22, .const (.int .u8 105)), (23, .const (.int .u8 25)), (24, .const (.int .u8 112)), (25, .const (.int .u8 59)), (26, .const (.int .u8 172)), (27, .const (.int .u8 3)), (28, .const (.int .u8 28)), (29, .const (.int .u8 174)), (30, .const (.int .u8 127)), (31, .const (.int .u8 96))]) : Does Tryz.prog o a.eval w (fun v w' => Below w.heap.size w w' ∧ Own lo LV v w') :=
 Does.new (.slice (some ⟨w.heap.size, 0, none⟩) 32 32) (.cells (ints .u8 LV) 5) (by simp only [execOp, ho, Act.eval, List.map_toArray, List.map]; kernel_rfl) ⟨_, rfl, hlo, heap_alloc_new _ _⟩
theorem cLives (w : World) (hT : TabA w) : Ret 9 #[] w (Is (.bool true)) := by
 unfold Ret
 have hO0 : Below w.heap.size w w := Below.refl _ _
 go_enter Tryz.func9, Tryz.ntmps9
 refine wp_seq_k fun K1 hK1 => ?_
 refine wp_plain_inv 1 (specs [Is (.bool false)]) (specs_stb ⟨Is.stb _, trivial⟩) (by kernel_rfl) ?_ ?_
 ·refine ⟨fun a w hB hfr hdep => Step.plain rfl (dAssign (R := Is (.bool false)) rfl rfl), trivial⟩
 intro u1 hb1
 simp only [List.take, List.drop, FinAll, Act.put, lA, lZ]
 rintro _ rfl
 have hO1 := (hO0).trans (hb1.mono (hO0).size)
 have hT1 := TabA.below hT hb1
 refine hK1 _ _ ?_
 clear hK1 K1
 refine wp_seq_k fun K2 hK2 => ?_
 refine wp_plain_inv 2 (specs [Own u1.heap.size (LV), Own u1.heap.size (LV)]) (specs_stb ⟨Own.stb _ _, Own.stb _ _, trivial⟩) (by kernel_rfl) ?_ ?_
 ·refine ⟨fun a w hB hfr hdep => Step.plain rfl (dLV hB.size rfl),
   fun a w hB hfr hdep => Step.plain rfl (dAssign (R := Own u1.heap.size (LV)) rfl (hdep 0 6 (by kernel_rfl))), trivial⟩
 intro u2 hb2
 simp only [List.take, List.drop, FinAll, Act.put, lA, lS, lZ]
 rintro v6_2 h6_2 v1_2 h1_2
 have hO2 := (hO1).trans (hb2.mono (hO1).size)
 have hT2 := TabA.below hT1 hb2
 refine hK2 _ _ ?_
 clear hK2 K2
 refine wp_seq_k fun K3 hK3 => ?_
 refine wp_plain_inv 7 (specs [Own u1.heap.size (LV), Tup2 (Own u2.heap.size (PUB (LV))) (Is (.int .i64 0)), Tup2 (Own u2.heap.size (PUB (LV))) (Is (.int .i64 0)), Own u2.heap.size (PUB (LV)), Is (.int .i64 0), Own u2.heap.size (PUB (LV)), Is (.int .i64 0)]) (specs_stb ⟨Own.stb _ _, Tup2.stb (Own.stb _ _) (Is.stb _), Tup2.stb (Own.stb _ _) (Is.stb _), Own.stb _ _, Is.stb _, Own.stb _ _, Is.stb _, trivial⟩) (by kernel_rfl) ?_ ?_
 ·refine ⟨fun a w hB hfr hdep => Step.plain rfl (dMove (R := Own u1.heap.size (LV)) rfl (use (hfr 1 (by kernel_rfl)) ((Own.stb _ _) _ _ _ hB h1_2))),
   fun a w hB hfr hdep => Step.plain rfl (Does.call 24 #[(a.eval (.tmp 8))] (by kernel_rfl) (tupLo hB.size (cPublic w (TabA.below hT2 hB) (Own.bts (hdep 0 8 (by kernel_rfl)) (by first | decide | (rw [digs_len]; omega) | (rw [SEED_len]; omega) | (unfold PUB; rw [digs_len]; omega) | simp)) LV_dig rfl))),
   fun a w hB hfr hdep => Step.plain rfl (dMove (R := Tup2 (Own u2.heap.size (PUB (LV))) (Is (.int .i64 0))) rfl (hdep 1 9 (by kernel_rfl))),
   fun a w hB hfr hdep => Step.plain rfl (dExt0 rfl (hdep 2 7 (by kernel_rfl))),
   fun a w hB hfr hdep => Step.plain rfl (dExt1 rfl (hdep 2 7 (by kernel_rfl))),
   fun a w hB hfr hdep => Step.plain rfl (dAssign (R := Own u2.heap.size (PUB (LV))) rfl (hdep 3 10 (by kernel_rfl))),
   fun a w hB hfr hdep => Step.plain rfl (dAssign (R := Is (.int .i64 0)) rfl (hdep 4 11 (by kernel_rfl))), trivial⟩
 intro u3 hb3
 simp only [List.take, List.drop, FinAll, Act.put, lA, lS, lZ]
 rintro v8_3 h8_3 v9_3 h9_3 v7_3 h7_3 v10_3 h10_3 _ rfl v2_3 h2_3 _ rfl
 have hO3 := (hO2).trans (hb3.mono (hO2).size)
 have hT3 := TabA.below hT2 hb3
 refine hK3 _ _ ?_
 clear hK3 K3
 refine wp_seq_k fun K4 hK4 => ?_
 refine wp_plain_inv 7 (specs [Own u1.heap.size (LV), Tup2 (OwnC u3.heap.size (SIG (LV) ([]))) (Is (.int .i64 0)), Tup2 (OwnC u3.heap.size (SIG (LV) ([]))) (Is (.int .i64 0)), OwnC u3.heap.size (SIG (LV) ([])), Is (.int .i64 0), OwnC u3.heap.size (SIG (LV) ([])), Is (.int .i64 0)]) (specs_stb ⟨Own.stb _ _, Tup2.stb (OwnC.stb _ _) (Is.stb _), Tup2.stb (OwnC.stb _ _) (Is.stb _), OwnC.stb _ _, Is.stb _, OwnC.stb _ _, Is.stb _, trivial⟩) (by kernel_rfl) ?_ ?_
 ·refine ⟨fun a w hB hfr hdep => Step.plain rfl (dMove (R := Own u1.heap.size (LV)) rfl (use (hfr 1 (by kernel_rfl)) ((Own.stb _ _) _ _ _ hB ((Own.stb _ _) _ _ _ hb3 h1_2)))),
   fun a w hB hfr hdep => Step.plain rfl (Does.call 5 #[(a.eval (.tmp 13)), .slice none 0 0] (by kernel_rfl) (tupLoC hB.size (cSign w (TabA.below hT3 hB) (Own.bts (hdep 0 13 (by kernel_rfl)) (by first | decide | (rw [digs_len]; omega) | (rw [SEED_len]; omega) | (unfold PUB; rw [digs_len]; omega) | simp)) (btsNil rfl) LV_dig rfl (dig_lt (by simp; try omega)) (by decide)))),
   fun a w hB hfr hdep => Step.plain rfl (dMove (R := Tup2 (OwnC u3.heap.size (SIG (LV) ([]))) (Is (.int .i64 0))) rfl (hdep 1 14 (by kernel_rfl))),
   fun a w hB hfr hdep => Step.plain rfl (dExt0 rfl (hdep 2 12 (by kernel_rfl))),
   fun a w hB hfr hdep => Step.plain rfl (dExt1 rfl (hdep 2 12 (by kernel_rfl))),
   fun a w hB hfr hdep => Step.plain rfl (dAssign (R := OwnC u3.heap.size (SIG (LV) ([]))) rfl (hdep 3 15 (by kernel_rfl))),
   fun a w hB hfr hdep => Step.plain rfl (dAssign (R := Is (.int .i64 0)) rfl (hdep 4 16 (by kernel_rfl))), trivial⟩
 intro u4 hb4
 simp only [List.take, List.drop, FinAll, Act.put, lA, lS, lZ]
 rintro v13_4 h13_4 v14_4 h14_4 v12_4 h12_4 v15_4 h15_4 _ rfl v4_4 h4_4 _ rfl
 have hO4 := (hO3).trans (hb4.mono (hO3).size)
 have hT4 := TabA.below hT3 hb4
 refine hK4 _ _ ?_
 clear hK4 K4
 obtain ⟨gp, hvp, hlp, hrowp⟩ := ((Own.stb _ _) _ _ _ hb4 h2_3)
 rw [PUB_len] at hvp
 subst hvp
 obtain ⟨gs, caps, curs, hvs, hls, hrows, hcs, hds, hes⟩ := h4_4
 rw [SIG_len] at hvs
 subst hvs
 have kp0 : u4.cell? ⟨gp, 0, none⟩ = some (.int .u8 215) := cell_val hrowp 0 (by rw [PUB_len]; decide) (by rw [PUB_LV]; rfl)
 have kp1 : u4.cell? ⟨gp, 1, none⟩ = some (.int .u8 90) := cell_val hrowp 1 (by rw [PUB_len]; decide) (by rw [PUB_LV]; rfl)
 have kp2 : u4.cell? ⟨gp, 2, none⟩ = some (.int .u8 152) := cell_val hrowp 2 (by rw [PUB_len]; decide) (by rw [PUB_LV]; rfl)
 have kp3 : u4.cell? ⟨gp, 3, none⟩ = some (.int .u8 1) := cell_val hrowp 3 (by rw [PUB_len]; decide) (by rw [PUB_LV]; rfl)
 have ks0 : u4.cell? ⟨gs, 0, none⟩ = some (.int .u8 229) := cell_cur hrows hes 0 (by rw [SIG_len]; decide) (by rw [SIG_LV 0 (by decide), RB_LV]; rfl)
 have ks1 : u4.cell? ⟨gs, 1, none⟩ = some (.int .u8 86) := cell_cur hrows hes 1 (by rw [SIG_len]; decide) (by rw [SIG_LV 1 (by decide), RB_LV]; rfl)
 have ks2 : u4.cell? ⟨gs, 2, none⟩ = some (.int .u8 67) := cell_cur hrows hes 2 (by rw [SIG_len]; decide) (by rw [SIG_LV 2 (by decide), RB_LV]; rfl)
 have ks3 : u4.cell? ⟨gs, 3, none⟩ = some (.int .u8 0) := cell_cur hrows hes 3 (by rw [SIG_len]; decide) (by rw [SIG_LV 3 (by decide), RB_LV]; rfl)
 have HO : Hid _ := hO4
 clear hrows hes
 go_wp2
 go_ret
 exact ⟨_, rfl, HO.out, rfl⟩
end Go.Proofs.YtabgihjffjlfiaaGreatDoor
