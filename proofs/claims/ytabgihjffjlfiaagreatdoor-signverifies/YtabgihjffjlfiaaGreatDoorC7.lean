/-
  The reference's Of, Base. The reference's Base, Bytes, Read. Signatures: numbers modulo the base's order; points told by three numbers. Plain mathematics: nothing of the program stands here. Points told by three numbers: the reference's sum of two. The reference's so many of a point. The plain mathematics of the reference's digests: its turns, its words, its blocks are those of the program.
-/
import Derived.Test.YtabgihjffjlfiaaGreatDoorC6
import Derived.Test.YtabgihjffjlfiaaGreatDoorC2
set_option linter.unusedVariables false
namespace Go.Proofs.YtabgihjffjlfiaaGreatDoor
open Go.RowKit Go.Sort Go.BigFrame
set_option maxRecDepth 100000
set_option maxHeartbeats 2000000
def Fst (x : Fe) (v : Value) (w : World) : Prop := ∃ p : Addr, v = .pointer (some p) ∧ w.cell? p = some (.int .i64 ((x.val % 256 : Nat) : Int))
theorem Fst.stb (x : Fe) : Stb (Fst x) := fun _ _ _ hb ⟨p, h1, h2⟩ => ⟨p, h1, (hb.cell (block_lt_of_cell h2)).trans h2⟩
section
variable {ρ : Operand → Value} {o : Oper} {x y z t : Operand} {w : World}
theorem dFst {X : Fe} (ho : o.op = .indexAddr 43 x y) (h : Rw X (ρ x) w) (hy : ρ y = .int .i64 0) : Does Tryz.prog o ρ w (fun v w' => Below w.heap.size w w' ∧ Fst X v w') := by
 obtain ⟨a, c, hv, h1, h2, h3⟩ := h
 obtain ⟨b, off, rfl, hc⟩ := h3 (by rw [digs_len]; omega)
 have h0 := hc 0 (by rw [digs_len]; omega)
 rw [digs_get _ _ _ (by omega), Nat.pow_zero, Nat.div_one] at h0
 exact Does.run _ (run_idx33 (i := 0) ho hv hy (by omega)) ⟨_, rfl, h0⟩
theorem dLoadFst {X : Fe} (ho : o.op = .load 3 x) (h : Fst X (ρ x) w) : Does Tryz.prog o ρ w (fun v w' => Below w.heap.size w w' ∧ Is (.int .i64 ((X.val % 256 : Nat) : Int)) v w') := by
 obtain ⟨p, hp, hc⟩ := h
 exact Does.run _ (run_load3 ho hp hc) rfl
theorem run_rem2 {n : Nat} (ho : o.op = .binOp .rem 3 x y 3) (hx : ρ x = .int .i64 ((n % 256 : Nat) : Int)) (hy : ρ y = .int .i64 2) : (execOp ρ o).run Tryz.prog w = .ok (.value (.int .i64 ((n % 2 : Nat) : Int))) w := by
 simp [execOp, ho, hx, hy, go_sem]
 rw [Int.tmod_eq_emod_of_nonneg (by omega)]
 omega
theorem run_eq1 {n : Nat} {b : Bool} (hb : decide (n % 2 = 1) = b) (ho : o.op = .binOp .eql 3 x y 3) (hx : ρ x = .int .i64 ((n % 2 : Nat) : Int)) (hy : ρ y = .int .i64 1) : (execOp ρ o).run Tryz.prog w = .ok (.value (.bool b)) w := by
 have e : (((n % 2 : Nat) : Int) == 1) = b := by
  rw [← hb, Bool.eq_iff_iff]
  simp
  omega
 simp only [Int.natCast_emod] at e
 simp [execOp, ho, hx, hy, go_sem]
 exact e
end
theorem rRootT {y r : Fe} {v : Value} {e : Nat} (he : valD tab3.reverse = e) (hr : rootOf e (av y) = r) (hs : r * r = av y) (w : World) (h : Rw (av y) v w) : Ret 85 #[v] w (Tup2 (Rw r) (Is (.bool true))) := by
 have := rRoot he w h
 rw [hr, decide_eq_true hs] at this
 exact this
theorem rRootF {y r : Fe} {v : Value} {e : Nat} (he : valD tab3.reverse = e) (hr : rootOf e (av y) = r) (hs : ¬ r * r = av y) (w : World) (h : Rw (av y) v w) : Ret 85 #[v] w (Tup2 (Rw r) (Is (.bool false))) := by
 have := rRoot he w h
 rw [hr, decide_eq_false hs] at this
 exact this
theorem rOfN {y r : Fe} {bb : Bool} {v : Value} {e : Nat} (he : valD tab3.reverse = e) (hr : rootOf e (av y) = r) (w : World) (hy : Rw y v w) (hs : ¬ r * r = av y) : Ret 53 #[v, .bool bb] w (Tup2 (Is (.agg #[.slice none 0 0, .slice none 0 0])) (Is (.bool false))) := by
 unfold Ret
 have hO0 : Below w.heap.size w w := Below.refl _ _
 go_enter Tryz.func53, Tryz.ntmps53
 refine wp_seq_k fun K1 hK1 => ?_
 refine wp_plain_inv 2 (specs [Box w.heap.size (#[.slice none 0 0, .slice none 0 0]) 45, Is (.bool false)]) (specs_stb ⟨Box.stb _ _ _, Is.stb _, trivial⟩) (by kernel_rfl) ?_ ?_
 ·refine ⟨fun a w hB hfr hdep => Step.plain rfl (dAlloc35 hB.size rfl),
   fun a w hB hfr hdep => Step.plain rfl (dAssign (R := Is (.bool false)) rfl rfl), trivial⟩
 intro u1 hb1
 simp only [List.take, List.drop, FinAll, Act.put, lA, lS, lZ]
 rintro _ ⟨g4_1, rfl, l4_1, m4_1⟩ _ rfl
 have hO1 := (hO0).trans (hb1.mono (hO0).size)
 have lwm4_1 := Nat.le_trans (hO0).size l4_1
 refine hK1 _ _ ?_
 clear hK1 K1
 refine wp_seq_k fun K2 hK2 => ?_
 refine wp_plain_inv 2 (specs [Rw (1), Rw (1)]) (specs_stb ⟨Rw.stb _, Rw.stb _, trivial⟩) (by kernel_rfl) ?_ ?_
 ·refine ⟨fun a w hB hfr hdep => Step.plain rfl (Does.call 28 #[.int .i64 1] (by kernel_rfl) (rInt w 1 (by decide))),
   fun a w hB hfr hdep => Step.plain rfl (dAssign (R := Rw (1)) rfl (hdep 0 13 (by kernel_rfl))), trivial⟩
 intro u2 hb2
 simp only [List.take, List.drop, FinAll, Act.put, lA, lS, lZ]
 rintro v13_2 h13_2 v6_2 h6_2
 have hO2 := (hO1).trans (hb2.mono (hO1).size)
 have m4_1__2 := block_below hb2 (lt_of_heap m4_1) m4_1
 refine hK2 _ _ ?_
 clear hK2 K2
 refine wp_seq_k fun K3 hK3 => ?_
 refine wp_plain_inv 4 (specs [Rw (y), Rw (y), Rw ((y) * (y)), Rw ((y) * (y))]) (specs_stb ⟨Rw.stb _, Rw.stb _, Rw.stb _, Rw.stb _, trivial⟩) (by kernel_rfl) ?_ ?_
 ·refine ⟨fun a w hB hfr hdep => Step.plain rfl (dMove (R := Rw (y)) rfl (use (hfr 0 (by kernel_rfl)) ((Rw.stb _) _ _ _ hB ((Rw.stb _) _ _ _ hb2 ((Rw.stb _) _ _ _ hb1 hy))))),
   fun a w hB hfr hdep => Step.plain rfl (dMove (R := Rw (y)) rfl (use (hfr 0 (by kernel_rfl)) ((Rw.stb _) _ _ _ hB ((Rw.stb _) _ _ _ hb2 ((Rw.stb _) _ _ _ hb1 hy))))),
   fun a w hB hfr hdep => Step.plain rfl (Does.call 52 #[(a.eval (.tmp 14)), (a.eval (.tmp 15))] (by kernel_rfl) (rMul w (hdep 0 14 (by kernel_rfl)) (hdep 1 15 (by kernel_rfl)))),
   fun a w hB hfr hdep => Step.plain rfl (dAssign (R := Rw ((y) * (y))) rfl (hdep 2 16 (by kernel_rfl))), trivial⟩
 intro u3 hb3
 simp only [List.take, List.drop, FinAll, Act.put, lA, lS, lZ]
 rintro v14_3 h14_3 v15_3 h15_3 v16_3 h16_3 v7_3 h7_3
 have hO3 := (hO2).trans (hb3.mono (hO2).size)
 have m4_1__3 := block_below hb3 (lt_of_heap m4_1__2) m4_1__2
 refine hK3 _ _ ?_
 clear hK3 K3
 refine wp_seq_k fun K4 hK4 => ?_
 refine wp_plain_inv 4 (specs [Rw ((y) * (y)), Rw (1), Rw (((y) * (y)) - (1)), Rw (((y) * (y)) - (1))]) (specs_stb ⟨Rw.stb _, Rw.stb _, Rw.stb _, Rw.stb _, trivial⟩) (by kernel_rfl) ?_ ?_
 ·refine ⟨fun a w hB hfr hdep => Step.plain rfl (dMove (R := Rw ((y) * (y))) rfl (use (hfr 7 (by kernel_rfl)) ((Rw.stb _) _ _ _ hB h7_3))),
   fun a w hB hfr hdep => Step.plain rfl (dMove (R := Rw (1)) rfl (use (hfr 6 (by kernel_rfl)) ((Rw.stb _) _ _ _ hB ((Rw.stb _) _ _ _ hb3 h6_2)))),
   fun a w hB hfr hdep => Step.plain rfl (Does.call 27 #[(a.eval (.tmp 17)), (a.eval (.tmp 18))] (by kernel_rfl) (rSub w (hdep 0 17 (by kernel_rfl)) (hdep 1 18 (by kernel_rfl)))),
   fun a w hB hfr hdep => Step.plain rfl (dAssign (R := Rw (((y) * (y)) - (1))) rfl (hdep 2 19 (by kernel_rfl))), trivial⟩
 intro u4 hb4
 simp only [List.take, List.drop, FinAll, Act.put, lA, lS, lZ]
 rintro v17_4 h17_4 v18_4 h18_4 v19_4 h19_4 v8_4 h8_4
 have hO4 := (hO3).trans (hb4.mono (hO3).size)
 have m4_1__4 := block_below hb4 (lt_of_heap m4_1__3) m4_1__3
 refine hK4 _ _ ?_
 clear hK4 K4
 refine wp_seq_k fun K5 hK5 => ?_
 refine wp_plain_inv 6 (specs [Rw (dd), Rw ((y) * (y)), Rw ((dd) * ((y) * (y))), Rw (1), Rw (((dd) * ((y) * (y))) + (1)), Rw (((dd) * ((y) * (y))) + (1))]) (specs_stb ⟨Rw.stb _, Rw.stb _, Rw.stb _, Rw.stb _, Rw.stb _, Rw.stb _, trivial⟩) (by kernel_rfl) ?_ ?_
 ·refine ⟨fun a w hB hfr hdep => Step.plain rfl (Does.call 49 #[] (by kernel_rfl) (rD w)),
   fun a w hB hfr hdep => Step.plain rfl (dMove (R := Rw ((y) * (y))) rfl (use (hfr 7 (by kernel_rfl)) ((Rw.stb _) _ _ _ hB ((Rw.stb _) _ _ _ hb4 h7_3)))),
   fun a w hB hfr hdep => Step.plain rfl (Does.call 52 #[(a.eval (.tmp 20)), (a.eval (.tmp 21))] (by kernel_rfl) (rMul w (hdep 0 20 (by kernel_rfl)) (hdep 1 21 (by kernel_rfl)))),
   fun a w hB hfr hdep => Step.plain rfl (dMove (R := Rw (1)) rfl (use (hfr 6 (by kernel_rfl)) ((Rw.stb _) _ _ _ hB ((Rw.stb _) _ _ _ hb4 ((Rw.stb _) _ _ _ hb3 h6_2))))),
   fun a w hB hfr hdep => Step.plain rfl (Does.call 64 #[(a.eval (.tmp 22)), (a.eval (.tmp 23))] (by kernel_rfl) (rAdd w (hdep 2 22 (by kernel_rfl)) (hdep 3 23 (by kernel_rfl)))),
   fun a w hB hfr hdep => Step.plain rfl (dAssign (R := Rw (((dd) * ((y) * (y))) + (1))) rfl (hdep 4 24 (by kernel_rfl))), trivial⟩
 intro u5 hb5
 simp only [List.take, List.drop, FinAll, Act.put, lA, lS, lZ]
 rintro v20_5 h20_5 v21_5 h21_5 v22_5 h22_5 v23_5 h23_5 v24_5 h24_5 v9_5 h9_5
 have hO5 := (hO4).trans (hb5.mono (hO4).size)
 have m4_1__5 := block_below hb5 (lt_of_heap m4_1__4) m4_1__4
 refine hK5 _ _ ?_
 clear hK5 K5
 refine wp_seq_k fun K6 hK6 => ?_
 refine wp_plain_inv 10 (specs [Rw (((y) * (y)) - (1)), Rw (((dd) * ((y) * (y))) + (1)), Rw (fin (((dd) * ((y) * (y))) + (1))), Rw ((((y) * (y)) - (1)) * (fin (((dd) * ((y) * (y))) + (1)))), Tup2 (Rw (r)) (Is (.bool false)), Tup2 (Rw (r)) (Is (.bool false)), Rw (r), Is (.bool false), Rw (r), Is (.bool false)]) (specs_stb ⟨Rw.stb _, Rw.stb _, Rw.stb _, Rw.stb _, Tup2.stb (Rw.stb _) (Is.stb _), Tup2.stb (Rw.stb _) (Is.stb _), Rw.stb _, Is.stb _, Rw.stb _, Is.stb _, trivial⟩) (by kernel_rfl) ?_ ?_
 ·refine ⟨fun a w hB hfr hdep => Step.plain rfl (dMove (R := Rw (((y) * (y)) - (1))) rfl (use (hfr 8 (by kernel_rfl)) ((Rw.stb _) _ _ _ hB ((Rw.stb _) _ _ _ hb5 h8_4)))),
   fun a w hB hfr hdep => Step.plain rfl (dMove (R := Rw (((dd) * ((y) * (y))) + (1))) rfl (use (hfr 9 (by kernel_rfl)) ((Rw.stb _) _ _ _ hB h9_5))),
   fun a w hB hfr hdep => Step.plain rfl (Does.call 51 #[(a.eval (.tmp 27))] (by kernel_rfl) (rInv w (hdep 1 27 (by kernel_rfl)))),
   fun a w hB hfr hdep => Step.plain rfl (Does.call 52 #[(a.eval (.tmp 26)), (a.eval (.tmp 28))] (by kernel_rfl) (rMul w (hdep 0 26 (by kernel_rfl)) (hdep 2 28 (by kernel_rfl)))),
   fun a w hB hfr hdep => Step.plain rfl (Does.call 85 #[(a.eval (.tmp 29))] (by kernel_rfl) (rRootF he hr hs w (hdep 3 29 (by kernel_rfl)))),
   fun a w hB hfr hdep => Step.plain rfl (dMove (R := Tup2 (Rw (r)) (Is (.bool false))) rfl (hdep 4 30 (by kernel_rfl))),
   fun a w hB hfr hdep => Step.plain rfl (dExt0 rfl (hdep 5 25 (by kernel_rfl))),
   fun a w hB hfr hdep => Step.plain rfl (dExt1 rfl (hdep 5 25 (by kernel_rfl))),
   fun a w hB hfr hdep => Step.plain rfl (dAssign (R := Rw (r)) rfl (hdep 6 31 (by kernel_rfl))),
   fun a w hB hfr hdep => Step.plain rfl (dAssign (R := Is (.bool false)) rfl (hdep 7 32 (by kernel_rfl))), trivial⟩
 intro u6 hb6
 simp only [List.take, List.drop, FinAll, Act.put, lA, lS, lZ]
 rintro v26_6 h26_6 v27_6 h27_6 v28_6 h28_6 v29_6 h29_6 v30_6 h30_6 v25_6 h25_6 v31_6 h31_6 _ rfl v10_6 h10_6 _ rfl
 have hO6 := (hO5).trans (hb6.mono (hO5).size)
 have m4_1__6 := block_below hb6 (lt_of_heap m4_1__5) m4_1__5
 refine hK6 _ _ ?_
 clear hK6 K6
 refine wp_seq_k fun KO6 hKO6 => ?_
 refine wp_seq_k fun K7 hK7 => ?_
 refine wp_plain_inv 2 (specs [Is (.bool false), Is (.bool true)]) (specs_stb ⟨Is.stb _, Is.stb _, trivial⟩) (by kernel_rfl) ?_ ?_
 ·refine ⟨fun a w hB hfr hdep => Step.plain rfl (dMove (R := Is (.bool false)) rfl (hfr 11 (by kernel_rfl))),
   fun a w hB hfr hdep => Step.plain rfl (Does.run _ (run_notO rfl (hdep 0 33 (by kernel_rfl))) rfl), trivial⟩
 intro u7 hb7
 simp only [List.take, List.drop, FinAll, Act.put, lA, lS, lZ]
 rintro _ rfl _ rfl
 have hO7 := (hO6).trans (hb7.mono (hO6).size)
 have m4_1__7 := block_below hb7 (lt_of_heap m4_1__6) m4_1__6
 refine hK7 _ _ ?_
 clear hK7 K7
 refine wp_cond_true rfl ?_
 refine wp_seq_k fun K8 hK8 => ?_
 refine wp_plain_inv 1 (specs [Is (.agg #[.slice none 0 0, .slice none 0 0])]) (specs_stb ⟨Is.stb _, trivial⟩) (by kernel_rfl) ?_ ?_
 ·refine ⟨fun a w hB hfr hdep => Step.plain rfl (Does.run _ (bu35z rfl) rfl), trivial⟩
 intro u8 hb8
 simp only [List.take, List.drop, FinAll, Act.put, lA, lS, lZ]
 rintro _ rfl
 have om4_1__7 := block_below hb8 (lt_of_heap m4_1__7) m4_1__7
 refine wpList_store_row rfl 45 (.tmp 4) (.tmp 35) rfl _ (#[.slice none 0 0, .slice none 0 0]) rfl rfl 45 _ om4_1__7 info35 rfl (by simp [Value.oneCell']) ?_
 refine wpList_assign rfl rfl rfl ?_
 simp only [Act.put, Act.eval, lA, lS, lZ]
 have n4_8 := setRow_heap _ _ _ (#[.slice none 0 0, .slice none 0 0]) _ _ om4_1__7
 have hO8 := setRow_below (hO7.trans (hb8.mono (hO7).size)) lwm4_1 (#[.slice none 0 0, .slice none 0 0])
 refine hK8 _ _ ?_
 clear hK8 K8
 refine wp_ret ?_
 simp only [Exit.then]
 refine bodyPost_ret (v := .tuple #[.agg (#[.slice none 0 0, .slice none 0 0]), .bool false]) ?_ rfl ⟨_, rfl, hO8, ⟨_, _, rfl, rfl, rfl⟩⟩
 exact results_cell_tmp Tryz.results53 _ _ _ 45 _ (0, 0) _ _ rfl rfl n4_8 Tryz.underlying45 rfl (by first | exact info26 | exact info29 | exact info35 | (rw [(Pt4.cells (by assumption)).1]; exact info29) | (rw [cellsP_size (by assumption)]; exact info29))
theorem rOfS {y r : Fe} {bb : Bool} {v : Value} {e : Nat} (he : valD tab3.reverse = e) (hr : rootOf e (av y) = r) (w : World) (hy : Rw y v w) (hs : r * r = av y) (ho1 : decide (r.val % 2 = 1) = bb) : Ret 53 #[v, .bool bb] w (Tup2 (RPt r y) (Is (.bool true))) := by
 unfold Ret
 have hO0 : Below w.heap.size w w := Below.refl _ _
 go_enter Tryz.func53, Tryz.ntmps53
 refine wp_seq_k fun K1 hK1 => ?_
 refine wp_plain_inv 2 (specs [Box w.heap.size (#[.slice none 0 0, .slice none 0 0]) 45, Is (.bool false)]) (specs_stb ⟨Box.stb _ _ _, Is.stb _, trivial⟩) (by kernel_rfl) ?_ ?_
 ·refine ⟨fun a w hB hfr hdep => Step.plain rfl (dAlloc35 hB.size rfl),
   fun a w hB hfr hdep => Step.plain rfl (dAssign (R := Is (.bool false)) rfl rfl), trivial⟩
 intro u1 hb1
 simp only [List.take, List.drop, FinAll, Act.put, lA, lS, lZ]
 rintro _ ⟨g4_1, rfl, l4_1, m4_1⟩ _ rfl
 have hO1 := (hO0).trans (hb1.mono (hO0).size)
 have lwm4_1 := Nat.le_trans (hO0).size l4_1
 refine hK1 _ _ ?_
 clear hK1 K1
 refine wp_seq_k fun K2 hK2 => ?_
 refine wp_plain_inv 2 (specs [Rw (1), Rw (1)]) (specs_stb ⟨Rw.stb _, Rw.stb _, trivial⟩) (by kernel_rfl) ?_ ?_
 ·refine ⟨fun a w hB hfr hdep => Step.plain rfl (Does.call 28 #[.int .i64 1] (by kernel_rfl) (rInt w 1 (by decide))),
   fun a w hB hfr hdep => Step.plain rfl (dAssign (R := Rw (1)) rfl (hdep 0 13 (by kernel_rfl))), trivial⟩
 intro u2 hb2
 simp only [List.take, List.drop, FinAll, Act.put, lA, lS, lZ]
 rintro v13_2 h13_2 v6_2 h6_2
 have hO2 := (hO1).trans (hb2.mono (hO1).size)
 have m4_1__2 := block_below hb2 (lt_of_heap m4_1) m4_1
 refine hK2 _ _ ?_
 clear hK2 K2
 refine wp_seq_k fun K3 hK3 => ?_
 refine wp_plain_inv 4 (specs [Rw (y), Rw (y), Rw ((y) * (y)), Rw ((y) * (y))]) (specs_stb ⟨Rw.stb _, Rw.stb _, Rw.stb _, Rw.stb _, trivial⟩) (by kernel_rfl) ?_ ?_
 ·refine ⟨fun a w hB hfr hdep => Step.plain rfl (dMove (R := Rw (y)) rfl (use (hfr 0 (by kernel_rfl)) ((Rw.stb _) _ _ _ hB ((Rw.stb _) _ _ _ hb2 ((Rw.stb _) _ _ _ hb1 hy))))),
   fun a w hB hfr hdep => Step.plain rfl (dMove (R := Rw (y)) rfl (use (hfr 0 (by kernel_rfl)) ((Rw.stb _) _ _ _ hB ((Rw.stb _) _ _ _ hb2 ((Rw.stb _) _ _ _ hb1 hy))))),
   fun a w hB hfr hdep => Step.plain rfl (Does.call 52 #[(a.eval (.tmp 14)), (a.eval (.tmp 15))] (by kernel_rfl) (rMul w (hdep 0 14 (by kernel_rfl)) (hdep 1 15 (by kernel_rfl)))),
   fun a w hB hfr hdep => Step.plain rfl (dAssign (R := Rw ((y) * (y))) rfl (hdep 2 16 (by kernel_rfl))), trivial⟩
 intro u3 hb3
 simp only [List.take, List.drop, FinAll, Act.put, lA, lS, lZ]
 rintro v14_3 h14_3 v15_3 h15_3 v16_3 h16_3 v7_3 h7_3
 have hO3 := (hO2).trans (hb3.mono (hO2).size)
 have m4_1__3 := block_below hb3 (lt_of_heap m4_1__2) m4_1__2
 refine hK3 _ _ ?_
 clear hK3 K3
 refine wp_seq_k fun K4 hK4 => ?_
 refine wp_plain_inv 4 (specs [Rw ((y) * (y)), Rw (1), Rw (((y) * (y)) - (1)), Rw (((y) * (y)) - (1))]) (specs_stb ⟨Rw.stb _, Rw.stb _, Rw.stb _, Rw.stb _, trivial⟩) (by kernel_rfl) ?_ ?_
 ·refine ⟨fun a w hB hfr hdep => Step.plain rfl (dMove (R := Rw ((y) * (y))) rfl (use (hfr 7 (by kernel_rfl)) ((Rw.stb _) _ _ _ hB h7_3))),
   fun a w hB hfr hdep => Step.plain rfl (dMove (R := Rw (1)) rfl (use (hfr 6 (by kernel_rfl)) ((Rw.stb _) _ _ _ hB ((Rw.stb _) _ _ _ hb3 h6_2)))),
   fun a w hB hfr hdep => Step.plain rfl (Does.call 27 #[(a.eval (.tmp 17)), (a.eval (.tmp 18))] (by kernel_rfl) (rSub w (hdep 0 17 (by kernel_rfl)) (hdep 1 18 (by kernel_rfl)))),
   fun a w hB hfr hdep => Step.plain rfl (dAssign (R := Rw (((y) * (y)) - (1))) rfl (hdep 2 19 (by kernel_rfl))), trivial⟩
 intro u4 hb4
 simp only [List.take, List.drop, FinAll, Act.put, lA, lS, lZ]
 rintro v17_4 h17_4 v18_4 h18_4 v19_4 h19_4 v8_4 h8_4
 have hO4 := (hO3).trans (hb4.mono (hO3).size)
 have m4_1__4 := block_below hb4 (lt_of_heap m4_1__3) m4_1__3
 refine hK4 _ _ ?_
 clear hK4 K4
 refine wp_seq_k fun K5 hK5 => ?_
 refine wp_plain_inv 6 (specs [Rw (dd), Rw ((y) * (y)), Rw ((dd) * ((y) * (y))), Rw (1), Rw (((dd) * ((y) * (y))) + (1)), Rw (((dd) * ((y) * (y))) + (1))]) (specs_stb ⟨Rw.stb _, Rw.stb _, Rw.stb _, Rw.stb _, Rw.stb _, Rw.stb _, trivial⟩) (by kernel_rfl) ?_ ?_
 ·refine ⟨fun a w hB hfr hdep => Step.plain rfl (Does.call 49 #[] (by kernel_rfl) (rD w)),
   fun a w hB hfr hdep => Step.plain rfl (dMove (R := Rw ((y) * (y))) rfl (use (hfr 7 (by kernel_rfl)) ((Rw.stb _) _ _ _ hB ((Rw.stb _) _ _ _ hb4 h7_3)))),
   fun a w hB hfr hdep => Step.plain rfl (Does.call 52 #[(a.eval (.tmp 20)), (a.eval (.tmp 21))] (by kernel_rfl) (rMul w (hdep 0 20 (by kernel_rfl)) (hdep 1 21 (by kernel_rfl)))),
   fun a w hB hfr hdep => Step.plain rfl (dMove (R := Rw (1)) rfl (use (hfr 6 (by kernel_rfl)) ((Rw.stb _) _ _ _ hB ((Rw.stb _) _ _ _ hb4 ((Rw.stb _) _ _ _ hb3 h6_2))))),
   fun a w hB hfr hdep => Step.plain rfl (Does.call 64 #[(a.eval (.tmp 22)), (a.eval (.tmp 23))] (by kernel_rfl) (rAdd w (hdep 2 22 (by kernel_rfl)) (hdep 3 23 (by kernel_rfl)))),
   fun a w hB hfr hdep => Step.plain rfl (dAssign (R := Rw (((dd) * ((y) * (y))) + (1))) rfl (hdep 4 24 (by kernel_rfl))), trivial⟩
 intro u5 hb5
 simp only [List.take, List.drop, FinAll, Act.put, lA, lS, lZ]
 rintro v20_5 h20_5 v21_5 h21_5 v22_5 h22_5 v23_5 h23_5 v24_5 h24_5 v9_5 h9_5
 have hO5 := (hO4).trans (hb5.mono (hO4).size)
 have m4_1__5 := block_below hb5 (lt_of_heap m4_1__4) m4_1__4
 refine hK5 _ _ ?_
 clear hK5 K5
 refine wp_seq_k fun K6 hK6 => ?_
 refine wp_plain_inv 10 (specs [Rw (((y) * (y)) - (1)), Rw (((dd) * ((y) * (y))) + (1)), Rw (fin (((dd) * ((y) * (y))) + (1))), Rw ((((y) * (y)) - (1)) * (fin (((dd) * ((y) * (y))) + (1)))), Tup2 (Rw (r)) (Is (.bool true)), Tup2 (Rw (r)) (Is (.bool true)), Rw (r), Is (.bool true), Rw (r), Is (.bool true)]) (specs_stb ⟨Rw.stb _, Rw.stb _, Rw.stb _, Rw.stb _, Tup2.stb (Rw.stb _) (Is.stb _), Tup2.stb (Rw.stb _) (Is.stb _), Rw.stb _, Is.stb _, Rw.stb _, Is.stb _, trivial⟩) (by kernel_rfl) ?_ ?_
 ·refine ⟨fun a w hB hfr hdep => Step.plain rfl (dMove (R := Rw (((y) * (y)) - (1))) rfl (use (hfr 8 (by kernel_rfl)) ((Rw.stb _) _ _ _ hB ((Rw.stb _) _ _ _ hb5 h8_4)))),
   fun a w hB hfr hdep => Step.plain rfl (dMove (R := Rw (((dd) * ((y) * (y))) + (1))) rfl (use (hfr 9 (by kernel_rfl)) ((Rw.stb _) _ _ _ hB h9_5))),
   fun a w hB hfr hdep => Step.plain rfl (Does.call 51 #[(a.eval (.tmp 27))] (by kernel_rfl) (rInv w (hdep 1 27 (by kernel_rfl)))),
   fun a w hB hfr hdep => Step.plain rfl (Does.call 52 #[(a.eval (.tmp 26)), (a.eval (.tmp 28))] (by kernel_rfl) (rMul w (hdep 0 26 (by kernel_rfl)) (hdep 2 28 (by kernel_rfl)))),
   fun a w hB hfr hdep => Step.plain rfl (Does.call 85 #[(a.eval (.tmp 29))] (by kernel_rfl) (rRootT he hr hs w (hdep 3 29 (by kernel_rfl)))),
   fun a w hB hfr hdep => Step.plain rfl (dMove (R := Tup2 (Rw (r)) (Is (.bool true))) rfl (hdep 4 30 (by kernel_rfl))),
   fun a w hB hfr hdep => Step.plain rfl (dExt0 rfl (hdep 5 25 (by kernel_rfl))),
   fun a w hB hfr hdep => Step.plain rfl (dExt1 rfl (hdep 5 25 (by kernel_rfl))),
   fun a w hB hfr hdep => Step.plain rfl (dAssign (R := Rw (r)) rfl (hdep 6 31 (by kernel_rfl))),
   fun a w hB hfr hdep => Step.plain rfl (dAssign (R := Is (.bool true)) rfl (hdep 7 32 (by kernel_rfl))), trivial⟩
 intro u6 hb6
 simp only [List.take, List.drop, FinAll, Act.put, lA, lS, lZ]
 rintro v26_6 h26_6 v27_6 h27_6 v28_6 h28_6 v29_6 h29_6 v30_6 h30_6 v25_6 h25_6 v31_6 h31_6 _ rfl v10_6 h10_6 _ rfl
 have hO6 := (hO5).trans (hb6.mono (hO5).size)
 have m4_1__6 := block_below hb6 (lt_of_heap m4_1__5) m4_1__5
 refine hK6 _ _ ?_
 clear hK6 K6
 refine wp_seq_k fun KO6 hKO6 => ?_
 refine wp_seq_k fun K7 hK7 => ?_
 refine wp_plain_inv 2 (specs [Is (.bool true), Is (.bool false)]) (specs_stb ⟨Is.stb _, Is.stb _, trivial⟩) (by kernel_rfl) ?_ ?_
 ·refine ⟨fun a w hB hfr hdep => Step.plain rfl (dMove (R := Is (.bool true)) rfl (hfr 11 (by kernel_rfl))),
   fun a w hB hfr hdep => Step.plain rfl (Does.run _ (run_notO rfl (hdep 0 33 (by kernel_rfl))) rfl), trivial⟩
 intro u7 hb7
 simp only [List.take, List.drop, FinAll, Act.put, lA, lS, lZ]
 rintro _ rfl _ rfl
 have hO7 := (hO6).trans (hb7.mono (hO6).size)
 have m4_1__7 := block_below hb7 (lt_of_heap m4_1__6) m4_1__6
 refine hK7 _ _ ?_
 clear hK7 K7
 refine wp_cond_false rfl ?_
 refine wp_skip ?_
 refine hKO6 _ _ ?_
 clear hKO6 KO6
 refine wp_seq_k fun KO8 hKO8 => ?_
 refine wp_seq_k fun K8 hK8 => ?_
 refine wp_plain_inv 7 (specs [Rw (r), Fst (r), Is (.int .i64 ((Fin.val (r) % 256 : Nat) : Int)), Is (.int .i64 ((Fin.val (r) % 2 : Nat) : Int)), Is (.bool bb), Is (.bool bb), Is (.bool false)]) (specs_stb ⟨Rw.stb _, Fst.stb _, Is.stb _, Is.stb _, Is.stb _, Is.stb _, Is.stb _, trivial⟩) (by kernel_rfl) ?_ ?_
 ·refine ⟨fun a w hB hfr hdep => Step.plain rfl (dMove (R := Rw (r)) rfl (use (hfr 10 (by kernel_rfl)) ((Rw.stb _) _ _ _ hB ((Rw.stb _) _ _ _ hb7 h10_6)))),
   fun a w hB hfr hdep => Step.plain rfl (dFst rfl (hdep 0 36 (by kernel_rfl)) rfl),
   fun a w hB hfr hdep => Step.plain rfl (dLoadFst rfl (hdep 1 37 (by kernel_rfl))),
   fun a w hB hfr hdep => Step.plain rfl (Does.run _ (run_rem2 rfl (hdep 2 38 (by kernel_rfl)) rfl) rfl),
   fun a w hB hfr hdep => Step.plain rfl (Does.run _ (run_eq1 ho1 rfl (hdep 3 39 (by kernel_rfl)) rfl) rfl),
   fun a w hB hfr hdep => Step.plain rfl (dMove (R := Is (.bool bb)) rfl (hfr 1 (by kernel_rfl))),
   fun a w hB hfr hdep => Step.plain rfl (Does.run _ (run_neqS rfl (hdep 4 40 (by kernel_rfl)) (hdep 5 41 (by kernel_rfl))) rfl), trivial⟩
 intro u8 hb8
 simp only [List.take, List.drop, FinAll, Act.put, lA, lS, lZ]
 rintro v36_8 h36_8 v37_8 h37_8 _ rfl _ rfl _ rfl _ rfl _ rfl
 have hO8 := (hO7).trans (hb8.mono (hO7).size)
 have m4_1__8 := block_below hb8 (lt_of_heap m4_1__7) m4_1__7
 refine hK8 _ _ ?_
 clear hK8 K8
 refine wp_cond_false rfl ?_
 refine wp_skip ?_
 refine hKO8 _ _ ?_
 clear hKO8 KO8
 refine wp_seq_k fun K9 hK9 => ?_
 refine wp_plain_inv 3 (specs [Rw (r), Rw (y), RPt (r) (y)]) (specs_stb ⟨Rw.stb _, Rw.stb _, RPt.stb _ _, trivial⟩) (by kernel_rfl) ?_ ?_
 ·refine ⟨fun a w hB hfr hdep => Step.plain rfl (dMove (R := Rw (r)) rfl (use (hfr 10 (by kernel_rfl)) ((Rw.stb _) _ _ _ hB ((Rw.stb _) _ _ _ hb8 ((Rw.stb _) _ _ _ hb7 h10_6))))),
   fun a w hB hfr hdep => Step.plain rfl (dMove (R := Rw (y)) rfl (use (hfr 0 (by kernel_rfl)) ((Rw.stb _) _ _ _ hB ((Rw.stb _) _ _ _ hb8 ((Rw.stb _) _ _ _ hb7 ((Rw.stb _) _ _ _ hb6 ((Rw.stb _) _ _ _ hb5 ((Rw.stb _) _ _ _ hb4 ((Rw.stb _) _ _ _ hb3 ((Rw.stb _) _ _ _ hb2 ((Rw.stb _) _ _ _ hb1 hy))))))))))),
   fun a w hB hfr hdep => Step.plain rfl (dBuild35 rfl (hdep 0 51 (by kernel_rfl)) (hdep 1 52 (by kernel_rfl))), trivial⟩
 intro u9 hb9
 simp only [List.take, List.drop, FinAll, Act.put, lA, lS, lZ]
 rintro v51_9 h51_9 v52_9 h52_9 _ ⟨p53_9, q53_9, rfl, x53_9, y53_9⟩
 have om4_1__8 := block_below hb9 (lt_of_heap m4_1__8) m4_1__8
 refine wpList_store_row rfl 45 (.tmp 4) (.tmp 53) rfl _ (#[p53_9, q53_9]) rfl rfl 45 _ om4_1__8 info35 rfl (rpt_one x53_9 y53_9) ?_
 refine wpList_assign rfl rfl rfl ?_
 simp only [Act.put, Act.eval, lA, lS, lZ]
 have xx := Rw.setRow x53_9 om4_1__8 nz35 (#[p53_9, q53_9])
 have yy := Rw.setRow y53_9 om4_1__8 nz35 (#[p53_9, q53_9])
 have n4_9 := setRow_heap _ _ _ (#[p53_9, q53_9]) _ _ om4_1__8
 have hO9 := setRow_below (hO8.trans (hb9.mono (hO8).size)) lwm4_1 (#[p53_9, q53_9])
 refine hK9 _ _ ?_
 clear hK9 K9
 refine wp_ret ?_
 refine bodyPost_ret (v := .tuple #[.agg (#[p53_9, q53_9]), .bool true]) ?_ rfl ⟨_, rfl, hO9, ⟨_, _, rfl, ⟨_, _, rfl, xx, yy⟩, rfl⟩⟩
 exact results_cell_tmp Tryz.results53 _ _ _ 45 _ (0, 0) _ _ rfl rfl n4_9 Tryz.underlying45 rfl (by first | exact info26 | exact info29 | exact info35 | (rw [(Pt4.cells (by assumption)).1]; exact info29) | (rw [cellsP_size (by assumption)]; exact info29))
theorem rOfZ {y r : Fe} {bb : Bool} {v : Value} {e : Nat} (he : valD tab3.reverse = e) (hr : rootOf e (av y) = r) (w : World) (hy : Rw y v w) (hs : r * r = av y) (ho1 : decide (r.val % 2 = 1) = !bb) (h0 : r = 0) : Ret 53 #[v, .bool bb] w (Tup2 (Is (.agg #[.slice none 0 0, .slice none 0 0])) (Is (.bool false))) := by
 unfold Ret
 have hO0 : Below w.heap.size w w := Below.refl _ _
 go_enter Tryz.func53, Tryz.ntmps53
 refine wp_seq_k fun K1 hK1 => ?_
 refine wp_plain_inv 2 (specs [Box w.heap.size (#[.slice none 0 0, .slice none 0 0]) 45, Is (.bool false)]) (specs_stb ⟨Box.stb _ _ _, Is.stb _, trivial⟩) (by kernel_rfl) ?_ ?_
 ·refine ⟨fun a w hB hfr hdep => Step.plain rfl (dAlloc35 hB.size rfl),
   fun a w hB hfr hdep => Step.plain rfl (dAssign (R := Is (.bool false)) rfl rfl), trivial⟩
 intro u1 hb1
 simp only [List.take, List.drop, FinAll, Act.put, lA, lS, lZ]
 rintro _ ⟨g4_1, rfl, l4_1, m4_1⟩ _ rfl
 have hO1 := (hO0).trans (hb1.mono (hO0).size)
 have lwm4_1 := Nat.le_trans (hO0).size l4_1
 refine hK1 _ _ ?_
 clear hK1 K1
 refine wp_seq_k fun K2 hK2 => ?_
 refine wp_plain_inv 2 (specs [Rw (1), Rw (1)]) (specs_stb ⟨Rw.stb _, Rw.stb _, trivial⟩) (by kernel_rfl) ?_ ?_
 ·refine ⟨fun a w hB hfr hdep => Step.plain rfl (Does.call 28 #[.int .i64 1] (by kernel_rfl) (rInt w 1 (by decide))),
   fun a w hB hfr hdep => Step.plain rfl (dAssign (R := Rw (1)) rfl (hdep 0 13 (by kernel_rfl))), trivial⟩
 intro u2 hb2
 simp only [List.take, List.drop, FinAll, Act.put, lA, lS, lZ]
 rintro v13_2 h13_2 v6_2 h6_2
 have hO2 := (hO1).trans (hb2.mono (hO1).size)
 have m4_1__2 := block_below hb2 (lt_of_heap m4_1) m4_1
 refine hK2 _ _ ?_
 clear hK2 K2
 refine wp_seq_k fun K3 hK3 => ?_
 refine wp_plain_inv 4 (specs [Rw (y), Rw (y), Rw ((y) * (y)), Rw ((y) * (y))]) (specs_stb ⟨Rw.stb _, Rw.stb _, Rw.stb _, Rw.stb _, trivial⟩) (by kernel_rfl) ?_ ?_
 ·refine ⟨fun a w hB hfr hdep => Step.plain rfl (dMove (R := Rw (y)) rfl (use (hfr 0 (by kernel_rfl)) ((Rw.stb _) _ _ _ hB ((Rw.stb _) _ _ _ hb2 ((Rw.stb _) _ _ _ hb1 hy))))),
   fun a w hB hfr hdep => Step.plain rfl (dMove (R := Rw (y)) rfl (use (hfr 0 (by kernel_rfl)) ((Rw.stb _) _ _ _ hB ((Rw.stb _) _ _ _ hb2 ((Rw.stb _) _ _ _ hb1 hy))))),
   fun a w hB hfr hdep => Step.plain rfl (Does.call 52 #[(a.eval (.tmp 14)), (a.eval (.tmp 15))] (by kernel_rfl) (rMul w (hdep 0 14 (by kernel_rfl)) (hdep 1 15 (by kernel_rfl)))),
   fun a w hB hfr hdep => Step.plain rfl (dAssign (R := Rw ((y) * (y))) rfl (hdep 2 16 (by kernel_rfl))), trivial⟩
 intro u3 hb3
 simp only [List.take, List.drop, FinAll, Act.put, lA, lS, lZ]
 rintro v14_3 h14_3 v15_3 h15_3 v16_3 h16_3 v7_3 h7_3
 have hO3 := (hO2).trans (hb3.mono (hO2).size)
 have m4_1__3 := block_below hb3 (lt_of_heap m4_1__2) m4_1__2
 refine hK3 _ _ ?_
 clear hK3 K3
 refine wp_seq_k fun K4 hK4 => ?_
 refine wp_plain_inv 4 (specs [Rw ((y) * (y)), Rw (1), Rw (((y) * (y)) - (1)), Rw (((y) * (y)) - (1))]) (specs_stb ⟨Rw.stb _, Rw.stb _, Rw.stb _, Rw.stb _, trivial⟩) (by kernel_rfl) ?_ ?_
 ·refine ⟨fun a w hB hfr hdep => Step.plain rfl (dMove (R := Rw ((y) * (y))) rfl (use (hfr 7 (by kernel_rfl)) ((Rw.stb _) _ _ _ hB h7_3))),
   fun a w hB hfr hdep => Step.plain rfl (dMove (R := Rw (1)) rfl (use (hfr 6 (by kernel_rfl)) ((Rw.stb _) _ _ _ hB ((Rw.stb _) _ _ _ hb3 h6_2)))),
   fun a w hB hfr hdep => Step.plain rfl (Does.call 27 #[(a.eval (.tmp 17)), (a.eval (.tmp 18))] (by kernel_rfl) (rSub w (hdep 0 17 (by kernel_rfl)) (hdep 1 18 (by kernel_rfl)))),
   fun a w hB hfr hdep => Step.plain rfl (dAssign (R := Rw (((y) * (y)) - (1))) rfl (hdep 2 19 (by kernel_rfl))), trivial⟩
 intro u4 hb4
 simp only [List.take, List.drop, FinAll, Act.put, lA, lS, lZ]
 rintro v17_4 h17_4 v18_4 h18_4 v19_4 h19_4 v8_4 h8_4
 have hO4 := (hO3).trans (hb4.mono (hO3).size)
 have m4_1__4 := block_below hb4 (lt_of_heap m4_1__3) m4_1__3
 refine hK4 _ _ ?_
 clear hK4 K4
 refine wp_seq_k fun K5 hK5 => ?_
 refine wp_plain_inv 6 (specs [Rw (dd), Rw ((y) * (y)), Rw ((dd) * ((y) * (y))), Rw (1), Rw (((dd) * ((y) * (y))) + (1)), Rw (((dd) * ((y) * (y))) + (1))]) (specs_stb ⟨Rw.stb _, Rw.stb _, Rw.stb _, Rw.stb _, Rw.stb _, Rw.stb _, trivial⟩) (by kernel_rfl) ?_ ?_
 ·refine ⟨fun a w hB hfr hdep => Step.plain rfl (Does.call 49 #[] (by kernel_rfl) (rD w)),
   fun a w hB hfr hdep => Step.plain rfl (dMove (R := Rw ((y) * (y))) rfl (use (hfr 7 (by kernel_rfl)) ((Rw.stb _) _ _ _ hB ((Rw.stb _) _ _ _ hb4 h7_3)))),
   fun a w hB hfr hdep => Step.plain rfl (Does.call 52 #[(a.eval (.tmp 20)), (a.eval (.tmp 21))] (by kernel_rfl) (rMul w (hdep 0 20 (by kernel_rfl)) (hdep 1 21 (by kernel_rfl)))),
   fun a w hB hfr hdep => Step.plain rfl (dMove (R := Rw (1)) rfl (use (hfr 6 (by kernel_rfl)) ((Rw.stb _) _ _ _ hB ((Rw.stb _) _ _ _ hb4 ((Rw.stb _) _ _ _ hb3 h6_2))))),
   fun a w hB hfr hdep => Step.plain rfl (Does.call 64 #[(a.eval (.tmp 22)), (a.eval (.tmp 23))] (by kernel_rfl) (rAdd w (hdep 2 22 (by kernel_rfl)) (hdep 3 23 (by kernel_rfl)))),
   fun a w hB hfr hdep => Step.plain rfl (dAssign (R := Rw (((dd) * ((y) * (y))) + (1))) rfl (hdep 4 24 (by kernel_rfl))), trivial⟩
 intro u5 hb5
 simp only [List.take, List.drop, FinAll, Act.put, lA, lS, lZ]
 rintro v20_5 h20_5 v21_5 h21_5 v22_5 h22_5 v23_5 h23_5 v24_5 h24_5 v9_5 h9_5
 have hO5 := (hO4).trans (hb5.mono (hO4).size)
 have m4_1__5 := block_below hb5 (lt_of_heap m4_1__4) m4_1__4
 refine hK5 _ _ ?_
 clear hK5 K5
 refine wp_seq_k fun K6 hK6 => ?_
 refine wp_plain_inv 10 (specs [Rw (((y) * (y)) - (1)), Rw (((dd) * ((y) * (y))) + (1)), Rw (fin (((dd) * ((y) * (y))) + (1))), Rw ((((y) * (y)) - (1)) * (fin (((dd) * ((y) * (y))) + (1)))), Tup2 (Rw (r)) (Is (.bool true)), Tup2 (Rw (r)) (Is (.bool true)), Rw (r), Is (.bool true), Rw (r), Is (.bool true)]) (specs_stb ⟨Rw.stb _, Rw.stb _, Rw.stb _, Rw.stb _, Tup2.stb (Rw.stb _) (Is.stb _), Tup2.stb (Rw.stb _) (Is.stb _), Rw.stb _, Is.stb _, Rw.stb _, Is.stb _, trivial⟩) (by kernel_rfl) ?_ ?_
 ·refine ⟨fun a w hB hfr hdep => Step.plain rfl (dMove (R := Rw (((y) * (y)) - (1))) rfl (use (hfr 8 (by kernel_rfl)) ((Rw.stb _) _ _ _ hB ((Rw.stb _) _ _ _ hb5 h8_4)))),
   fun a w hB hfr hdep => Step.plain rfl (dMove (R := Rw (((dd) * ((y) * (y))) + (1))) rfl (use (hfr 9 (by kernel_rfl)) ((Rw.stb _) _ _ _ hB h9_5))),
   fun a w hB hfr hdep => Step.plain rfl (Does.call 51 #[(a.eval (.tmp 27))] (by kernel_rfl) (rInv w (hdep 1 27 (by kernel_rfl)))),
   fun a w hB hfr hdep => Step.plain rfl (Does.call 52 #[(a.eval (.tmp 26)), (a.eval (.tmp 28))] (by kernel_rfl) (rMul w (hdep 0 26 (by kernel_rfl)) (hdep 2 28 (by kernel_rfl)))),
   fun a w hB hfr hdep => Step.plain rfl (Does.call 85 #[(a.eval (.tmp 29))] (by kernel_rfl) (rRootT he hr hs w (hdep 3 29 (by kernel_rfl)))),
   fun a w hB hfr hdep => Step.plain rfl (dMove (R := Tup2 (Rw (r)) (Is (.bool true))) rfl (hdep 4 30 (by kernel_rfl))),
   fun a w hB hfr hdep => Step.plain rfl (dExt0 rfl (hdep 5 25 (by kernel_rfl))),
   fun a w hB hfr hdep => Step.plain rfl (dExt1 rfl (hdep 5 25 (by kernel_rfl))),
   fun a w hB hfr hdep => Step.plain rfl (dAssign (R := Rw (r)) rfl (hdep 6 31 (by kernel_rfl))),
   fun a w hB hfr hdep => Step.plain rfl (dAssign (R := Is (.bool true)) rfl (hdep 7 32 (by kernel_rfl))), trivial⟩
 intro u6 hb6
 simp only [List.take, List.drop, FinAll, Act.put, lA, lS, lZ]
 rintro v26_6 h26_6 v27_6 h27_6 v28_6 h28_6 v29_6 h29_6 v30_6 h30_6 v25_6 h25_6 v31_6 h31_6 _ rfl v10_6 h10_6 _ rfl
 have hO6 := (hO5).trans (hb6.mono (hO5).size)
 have m4_1__6 := block_below hb6 (lt_of_heap m4_1__5) m4_1__5
 refine hK6 _ _ ?_
 clear hK6 K6
 refine wp_seq_k fun KO6 hKO6 => ?_
 refine wp_seq_k fun K7 hK7 => ?_
 refine wp_plain_inv 2 (specs [Is (.bool true), Is (.bool false)]) (specs_stb ⟨Is.stb _, Is.stb _, trivial⟩) (by kernel_rfl) ?_ ?_
 ·refine ⟨fun a w hB hfr hdep => Step.plain rfl (dMove (R := Is (.bool true)) rfl (hfr 11 (by kernel_rfl))),
   fun a w hB hfr hdep => Step.plain rfl (Does.run _ (run_notO rfl (hdep 0 33 (by kernel_rfl))) rfl), trivial⟩
 intro u7 hb7
 simp only [List.take, List.drop, FinAll, Act.put, lA, lS, lZ]
 rintro _ rfl _ rfl
 have hO7 := (hO6).trans (hb7.mono (hO6).size)
 have m4_1__7 := block_below hb7 (lt_of_heap m4_1__6) m4_1__6
 refine hK7 _ _ ?_
 clear hK7 K7
 refine wp_cond_false rfl ?_
 refine wp_skip ?_
 refine hKO6 _ _ ?_
 clear hKO6 KO6
 refine wp_seq_k fun KO8 hKO8 => ?_
 refine wp_seq_k fun K8 hK8 => ?_
 refine wp_plain_inv 7 (specs [Rw (r), Fst (r), Is (.int .i64 ((Fin.val (r) % 256 : Nat) : Int)), Is (.int .i64 ((Fin.val (r) % 2 : Nat) : Int)), Is (.bool (!bb)), Is (.bool bb), Is (.bool true)]) (specs_stb ⟨Rw.stb _, Fst.stb _, Is.stb _, Is.stb _, Is.stb _, Is.stb _, Is.stb _, trivial⟩) (by kernel_rfl) ?_ ?_
 ·refine ⟨fun a w hB hfr hdep => Step.plain rfl (dMove (R := Rw (r)) rfl (use (hfr 10 (by kernel_rfl)) ((Rw.stb _) _ _ _ hB ((Rw.stb _) _ _ _ hb7 h10_6)))),
   fun a w hB hfr hdep => Step.plain rfl (dFst rfl (hdep 0 36 (by kernel_rfl)) rfl),
   fun a w hB hfr hdep => Step.plain rfl (dLoadFst rfl (hdep 1 37 (by kernel_rfl))),
   fun a w hB hfr hdep => Step.plain rfl (Does.run _ (run_rem2 rfl (hdep 2 38 (by kernel_rfl)) rfl) rfl),
   fun a w hB hfr hdep => Step.plain rfl (Does.run _ (run_eq1 ho1 rfl (hdep 3 39 (by kernel_rfl)) rfl) rfl),
   fun a w hB hfr hdep => Step.plain rfl (dMove (R := Is (.bool bb)) rfl (hfr 1 (by kernel_rfl))),
   fun a w hB hfr hdep => Step.plain rfl (Does.run _ (run_neqD rfl (hdep 4 40 (by kernel_rfl)) (hdep 5 41 (by kernel_rfl))) rfl), trivial⟩
 intro u8 hb8
 simp only [List.take, List.drop, FinAll, Act.put, lA, lS, lZ]
 rintro v36_8 h36_8 v37_8 h37_8 _ rfl _ rfl _ rfl _ rfl _ rfl
 have hO8 := (hO7).trans (hb8.mono (hO7).size)
 have m4_1__8 := block_below hb8 (lt_of_heap m4_1__7) m4_1__7
 refine hK8 _ _ ?_
 clear hK8 K8
 refine wp_cond_true rfl ?_
 refine wp_seq_k fun K9 hK9 => ?_
 refine wp_plain_inv 4 (specs [Rw (r), Rw (0), Is (.bool true), Is (.bool true)]) (specs_stb ⟨Rw.stb _, Rw.stb _, Is.stb _, Is.stb _, trivial⟩) (by kernel_rfl) ?_ ?_
 ·refine ⟨fun a w hB hfr hdep => Step.plain rfl (dMove (R := Rw (r)) rfl (use (hfr 10 (by kernel_rfl)) ((Rw.stb _) _ _ _ hB ((Rw.stb _) _ _ _ hb8 ((Rw.stb _) _ _ _ hb7 h10_6))))),
   fun a w hB hfr hdep => Step.plain rfl (Does.call 28 #[.int .i64 0] (by kernel_rfl) (rInt w 0 (by decide))),
   fun a w hB hfr hdep => Step.plain rfl (Does.call 86 #[(a.eval (.tmp 43)), (a.eval (.tmp 44))] (by kernel_rfl) (rSameT h0 w (hdep 0 43 (by kernel_rfl)) (hdep 1 44 (by kernel_rfl)))),
   fun a w hB hfr hdep => Step.plain rfl (dAssign (R := Is (.bool true)) rfl (hdep 2 45 (by kernel_rfl))), trivial⟩
 intro u9 hb9
 simp only [List.take, List.drop, FinAll, Act.put, lA, lS, lZ]
 rintro v43_9 h43_9 v44_9 h44_9 _ rfl _ rfl
 have hO9 := (hO8).trans (hb9.mono (hO8).size)
 have m4_1__9 := block_below hb9 (lt_of_heap m4_1__8) m4_1__8
 refine hK9 _ _ ?_
 clear hK9 K9
 refine wp_seq_k fun KO10 hKO10 => ?_
 refine wp_seq_k fun K10 hK10 => ?_
 refine wp_plain_inv 1 (specs [Is (.bool true)]) (specs_stb ⟨Is.stb _, trivial⟩) (by kernel_rfl) ?_ ?_
 ·refine ⟨fun a w hB hfr hdep => Step.plain rfl (dMove (R := Is (.bool true)) rfl (hfr 12 (by kernel_rfl))), trivial⟩
 intro u10 hb10
 simp only [List.take, List.drop, FinAll, Act.put, lA, lS, lZ]
 rintro _ rfl
 have hO10 := (hO9).trans (hb10.mono (hO9).size)
 have m4_1__10 := block_below hb10 (lt_of_heap m4_1__9) m4_1__9
 refine hK10 _ _ ?_
 clear hK10 K10
 refine wp_cond_true rfl ?_
 refine wp_seq_k fun K11 hK11 => ?_
 refine wp_plain_inv 1 (specs [Is (.agg #[.slice none 0 0, .slice none 0 0])]) (specs_stb ⟨Is.stb _, trivial⟩) (by kernel_rfl) ?_ ?_
 ·refine ⟨fun a w hB hfr hdep => Step.plain rfl (Does.run _ (bu35z rfl) rfl), trivial⟩
 intro u11 hb11
 simp only [List.take, List.drop, FinAll, Act.put, lA, lS, lZ]
 rintro _ rfl
 have om4_1__10 := block_below hb11 (lt_of_heap m4_1__10) m4_1__10
 refine wpList_store_row rfl 45 (.tmp 4) (.tmp 47) rfl _ (#[.slice none 0 0, .slice none 0 0]) rfl rfl 45 _ om4_1__10 info35 rfl (by simp [Value.oneCell']) ?_
 refine wpList_assign rfl rfl rfl ?_
 simp only [Act.put, Act.eval, lA, lS, lZ]
 have n4_11 := setRow_heap _ _ _ (#[.slice none 0 0, .slice none 0 0]) _ _ om4_1__10
 have hO11 := setRow_below (hO10.trans (hb11.mono (hO10).size)) lwm4_1 (#[.slice none 0 0, .slice none 0 0])
 refine hK11 _ _ ?_
 clear hK11 K11
 refine wp_ret ?_
 simp only [Exit.then]
 refine bodyPost_ret (v := .tuple #[.agg (#[.slice none 0 0, .slice none 0 0]), .bool false]) ?_ rfl ⟨_, rfl, hO11, ⟨_, _, rfl, rfl, rfl⟩⟩
 exact results_cell_tmp Tryz.results53 _ _ _ 45 _ (0, 0) _ _ rfl rfl n4_11 Tryz.underlying45 rfl (by first | exact info26 | exact info29 | exact info35 | (rw [(Pt4.cells (by assumption)).1]; exact info29) | (rw [cellsP_size (by assumption)]; exact info29))
theorem rOfF {y r : Fe} {bb : Bool} {v : Value} {e : Nat} (he : valD tab3.reverse = e) (hr : rootOf e (av y) = r) (w : World) (hy : Rw y v w) (hs : r * r = av y) (ho1 : decide (r.val % 2 = 1) = !bb) (h0 : ¬ r = 0) : Ret 53 #[v, .bool bb] w (Tup2 (RPt (0 - r) y) (Is (.bool true))) := by
 unfold Ret
 have hO0 : Below w.heap.size w w := Below.refl _ _
 go_enter Tryz.func53, Tryz.ntmps53
 refine wp_seq_k fun K1 hK1 => ?_
 refine wp_plain_inv 2 (specs [Box w.heap.size (#[.slice none 0 0, .slice none 0 0]) 45, Is (.bool false)]) (specs_stb ⟨Box.stb _ _ _, Is.stb _, trivial⟩) (by kernel_rfl) ?_ ?_
 ·refine ⟨fun a w hB hfr hdep => Step.plain rfl (dAlloc35 hB.size rfl),
   fun a w hB hfr hdep => Step.plain rfl (dAssign (R := Is (.bool false)) rfl rfl), trivial⟩
 intro u1 hb1
 simp only [List.take, List.drop, FinAll, Act.put, lA, lS, lZ]
 rintro _ ⟨g4_1, rfl, l4_1, m4_1⟩ _ rfl
 have hO1 := (hO0).trans (hb1.mono (hO0).size)
 have lwm4_1 := Nat.le_trans (hO0).size l4_1
 refine hK1 _ _ ?_
 clear hK1 K1
 refine wp_seq_k fun K2 hK2 => ?_
 refine wp_plain_inv 2 (specs [Rw (1), Rw (1)]) (specs_stb ⟨Rw.stb _, Rw.stb _, trivial⟩) (by kernel_rfl) ?_ ?_
 ·refine ⟨fun a w hB hfr hdep => Step.plain rfl (Does.call 28 #[.int .i64 1] (by kernel_rfl) (rInt w 1 (by decide))),
   fun a w hB hfr hdep => Step.plain rfl (dAssign (R := Rw (1)) rfl (hdep 0 13 (by kernel_rfl))), trivial⟩
 intro u2 hb2
 simp only [List.take, List.drop, FinAll, Act.put, lA, lS, lZ]
 rintro v13_2 h13_2 v6_2 h6_2
 have hO2 := (hO1).trans (hb2.mono (hO1).size)
 have m4_1__2 := block_below hb2 (lt_of_heap m4_1) m4_1
 refine hK2 _ _ ?_
 clear hK2 K2
 refine wp_seq_k fun K3 hK3 => ?_
 refine wp_plain_inv 4 (specs [Rw (y), Rw (y), Rw ((y) * (y)), Rw ((y) * (y))]) (specs_stb ⟨Rw.stb _, Rw.stb _, Rw.stb _, Rw.stb _, trivial⟩) (by kernel_rfl) ?_ ?_
 ·refine ⟨fun a w hB hfr hdep => Step.plain rfl (dMove (R := Rw (y)) rfl (use (hfr 0 (by kernel_rfl)) ((Rw.stb _) _ _ _ hB ((Rw.stb _) _ _ _ hb2 ((Rw.stb _) _ _ _ hb1 hy))))),
   fun a w hB hfr hdep => Step.plain rfl (dMove (R := Rw (y)) rfl (use (hfr 0 (by kernel_rfl)) ((Rw.stb _) _ _ _ hB ((Rw.stb _) _ _ _ hb2 ((Rw.stb _) _ _ _ hb1 hy))))),
   fun a w hB hfr hdep => Step.plain rfl (Does.call 52 #[(a.eval (.tmp 14)), (a.eval (.tmp 15))] (by kernel_rfl) (rMul w (hdep 0 14 (by kernel_rfl)) (hdep 1 15 (by kernel_rfl)))),
   fun a w hB hfr hdep => Step.plain rfl (dAssign (R := Rw ((y) * (y))) rfl (hdep 2 16 (by kernel_rfl))), trivial⟩
 intro u3 hb3
 simp only [List.take, List.drop, FinAll, Act.put, lA, lS, lZ]
 rintro v14_3 h14_3 v15_3 h15_3 v16_3 h16_3 v7_3 h7_3
 have hO3 := (hO2).trans (hb3.mono (hO2).size)
 have m4_1__3 := block_below hb3 (lt_of_heap m4_1__2) m4_1__2
 refine hK3 _ _ ?_
 clear hK3 K3
 refine wp_seq_k fun K4 hK4 => ?_
 refine wp_plain_inv 4 (specs [Rw ((y) * (y)), Rw (1), Rw (((y) * (y)) - (1)), Rw (((y) * (y)) - (1))]) (specs_stb ⟨Rw.stb _, Rw.stb _, Rw.stb _, Rw.stb _, trivial⟩) (by kernel_rfl) ?_ ?_
 ·refine ⟨fun a w hB hfr hdep => Step.plain rfl (dMove (R := Rw ((y) * (y))) rfl (use (hfr 7 (by kernel_rfl)) ((Rw.stb _) _ _ _ hB h7_3))),
   fun a w hB hfr hdep => Step.plain rfl (dMove (R := Rw (1)) rfl (use (hfr 6 (by kernel_rfl)) ((Rw.stb _) _ _ _ hB ((Rw.stb _) _ _ _ hb3 h6_2)))),
   fun a w hB hfr hdep => Step.plain rfl (Does.call 27 #[(a.eval (.tmp 17)), (a.eval (.tmp 18))] (by kernel_rfl) (rSub w (hdep 0 17 (by kernel_rfl)) (hdep 1 18 (by kernel_rfl)))),
   fun a w hB hfr hdep => Step.plain rfl (dAssign (R := Rw (((y) * (y)) - (1))) rfl (hdep 2 19 (by kernel_rfl))), trivial⟩
 intro u4 hb4
 simp only [List.take, List.drop, FinAll, Act.put, lA, lS, lZ]
 rintro v17_4 h17_4 v18_4 h18_4 v19_4 h19_4 v8_4 h8_4
 have hO4 := (hO3).trans (hb4.mono (hO3).size)
 have m4_1__4 := block_below hb4 (lt_of_heap m4_1__3) m4_1__3
 refine hK4 _ _ ?_
 clear hK4 K4
 refine wp_seq_k fun K5 hK5 => ?_
 refine wp_plain_inv 6 (specs [Rw (dd), Rw ((y) * (y)), Rw ((dd) * ((y) * (y))), Rw (1), Rw (((dd) * ((y) * (y))) + (1)), Rw (((dd) * ((y) * (y))) + (1))]) (specs_stb ⟨Rw.stb _, Rw.stb _, Rw.stb _, Rw.stb _, Rw.stb _, Rw.stb _, trivial⟩) (by kernel_rfl) ?_ ?_
 ·refine ⟨fun a w hB hfr hdep => Step.plain rfl (Does.call 49 #[] (by kernel_rfl) (rD w)),
   fun a w hB hfr hdep => Step.plain rfl (dMove (R := Rw ((y) * (y))) rfl (use (hfr 7 (by kernel_rfl)) ((Rw.stb _) _ _ _ hB ((Rw.stb _) _ _ _ hb4 h7_3)))),
   fun a w hB hfr hdep => Step.plain rfl (Does.call 52 #[(a.eval (.tmp 20)), (a.eval (.tmp 21))] (by kernel_rfl) (rMul w (hdep 0 20 (by kernel_rfl)) (hdep 1 21 (by kernel_rfl)))),
   fun a w hB hfr hdep => Step.plain rfl (dMove (R := Rw (1)) rfl (use (hfr 6 (by kernel_rfl)) ((Rw.stb _) _ _ _ hB ((Rw.stb _) _ _ _ hb4 ((Rw.stb _) _ _ _ hb3 h6_2))))),
   fun a w hB hfr hdep => Step.plain rfl (Does.call 64 #[(a.eval (.tmp 22)), (a.eval (.tmp 23))] (by kernel_rfl) (rAdd w (hdep 2 22 (by kernel_rfl)) (hdep 3 23 (by kernel_rfl)))),
   fun a w hB hfr hdep => Step.plain rfl (dAssign (R := Rw (((dd) * ((y) * (y))) + (1))) rfl (hdep 4 24 (by kernel_rfl))), trivial⟩
 intro u5 hb5
 simp only [List.take, List.drop, FinAll, Act.put, lA, lS, lZ]
 rintro v20_5 h20_5 v21_5 h21_5 v22_5 h22_5 v23_5 h23_5 v24_5 h24_5 v9_5 h9_5
 have hO5 := (hO4).trans (hb5.mono (hO4).size)
 have m4_1__5 := block_below hb5 (lt_of_heap m4_1__4) m4_1__4
 refine hK5 _ _ ?_
 clear hK5 K5
 refine wp_seq_k fun K6 hK6 => ?_
 refine wp_plain_inv 10 (specs [Rw (((y) * (y)) - (1)), Rw (((dd) * ((y) * (y))) + (1)), Rw (fin (((dd) * ((y) * (y))) + (1))), Rw ((((y) * (y)) - (1)) * (fin (((dd) * ((y) * (y))) + (1)))), Tup2 (Rw (r)) (Is (.bool true)), Tup2 (Rw (r)) (Is (.bool true)), Rw (r), Is (.bool true), Rw (r), Is (.bool true)]) (specs_stb ⟨Rw.stb _, Rw.stb _, Rw.stb _, Rw.stb _, Tup2.stb (Rw.stb _) (Is.stb _), Tup2.stb (Rw.stb _) (Is.stb _), Rw.stb _, Is.stb _, Rw.stb _, Is.stb _, trivial⟩) (by kernel_rfl) ?_ ?_
 ·refine ⟨fun a w hB hfr hdep => Step.plain rfl (dMove (R := Rw (((y) * (y)) - (1))) rfl (use (hfr 8 (by kernel_rfl)) ((Rw.stb _) _ _ _ hB ((Rw.stb _) _ _ _ hb5 h8_4)))),
   fun a w hB hfr hdep => Step.plain rfl (dMove (R := Rw (((dd) * ((y) * (y))) + (1))) rfl (use (hfr 9 (by kernel_rfl)) ((Rw.stb _) _ _ _ hB h9_5))),
   fun a w hB hfr hdep => Step.plain rfl (Does.call 51 #[(a.eval (.tmp 27))] (by kernel_rfl) (rInv w (hdep 1 27 (by kernel_rfl)))),
   fun a w hB hfr hdep => Step.plain rfl (Does.call 52 #[(a.eval (.tmp 26)), (a.eval (.tmp 28))] (by kernel_rfl) (rMul w (hdep 0 26 (by kernel_rfl)) (hdep 2 28 (by kernel_rfl)))),
   fun a w hB hfr hdep => Step.plain rfl (Does.call 85 #[(a.eval (.tmp 29))] (by kernel_rfl) (rRootT he hr hs w (hdep 3 29 (by kernel_rfl)))),
   fun a w hB hfr hdep => Step.plain rfl (dMove (R := Tup2 (Rw (r)) (Is (.bool true))) rfl (hdep 4 30 (by kernel_rfl))),
   fun a w hB hfr hdep => Step.plain rfl (dExt0 rfl (hdep 5 25 (by kernel_rfl))),
   fun a w hB hfr hdep => Step.plain rfl (dExt1 rfl (hdep 5 25 (by kernel_rfl))),
   fun a w hB hfr hdep => Step.plain rfl (dAssign (R := Rw (r)) rfl (hdep 6 31 (by kernel_rfl))),
   fun a w hB hfr hdep => Step.plain rfl (dAssign (R := Is (.bool true)) rfl (hdep 7 32 (by kernel_rfl))), trivial⟩
 intro u6 hb6
 simp only [List.take, List.drop, FinAll, Act.put, lA, lS, lZ]
 rintro v26_6 h26_6 v27_6 h27_6 v28_6 h28_6 v29_6 h29_6 v30_6 h30_6 v25_6 h25_6 v31_6 h31_6 _ rfl v10_6 h10_6 _ rfl
 have hO6 := (hO5).trans (hb6.mono (hO5).size)
 have m4_1__6 := block_below hb6 (lt_of_heap m4_1__5) m4_1__5
 refine hK6 _ _ ?_
 clear hK6 K6
 refine wp_seq_k fun KO6 hKO6 => ?_
 refine wp_seq_k fun K7 hK7 => ?_
 refine wp_plain_inv 2 (specs [Is (.bool true), Is (.bool false)]) (specs_stb ⟨Is.stb _, Is.stb _, trivial⟩) (by kernel_rfl) ?_ ?_
 ·refine ⟨fun a w hB hfr hdep => Step.plain rfl (dMove (R := Is (.bool true)) rfl (hfr 11 (by kernel_rfl))),
   fun a w hB hfr hdep => Step.plain rfl (Does.run _ (run_notO rfl (hdep 0 33 (by kernel_rfl))) rfl), trivial⟩
 intro u7 hb7
 simp only [List.take, List.drop, FinAll, Act.put, lA, lS, lZ]
 rintro _ rfl _ rfl
 have hO7 := (hO6).trans (hb7.mono (hO6).size)
 have m4_1__7 := block_below hb7 (lt_of_heap m4_1__6) m4_1__6
 refine hK7 _ _ ?_
 clear hK7 K7
 refine wp_cond_false rfl ?_
 refine wp_skip ?_
 refine hKO6 _ _ ?_
 clear hKO6 KO6
 refine wp_seq_k fun KO8 hKO8 => ?_
 refine wp_seq_k fun K8 hK8 => ?_
 refine wp_plain_inv 7 (specs [Rw (r), Fst (r), Is (.int .i64 ((Fin.val (r) % 256 : Nat) : Int)), Is (.int .i64 ((Fin.val (r) % 2 : Nat) : Int)), Is (.bool (!bb)), Is (.bool bb), Is (.bool true)]) (specs_stb ⟨Rw.stb _, Fst.stb _, Is.stb _, Is.stb _, Is.stb _, Is.stb _, Is.stb _, trivial⟩) (by kernel_rfl) ?_ ?_
 ·refine ⟨fun a w hB hfr hdep => Step.plain rfl (dMove (R := Rw (r)) rfl (use (hfr 10 (by kernel_rfl)) ((Rw.stb _) _ _ _ hB ((Rw.stb _) _ _ _ hb7 h10_6)))),
   fun a w hB hfr hdep => Step.plain rfl (dFst rfl (hdep 0 36 (by kernel_rfl)) rfl),
   fun a w hB hfr hdep => Step.plain rfl (dLoadFst rfl (hdep 1 37 (by kernel_rfl))),
   fun a w hB hfr hdep => Step.plain rfl (Does.run _ (run_rem2 rfl (hdep 2 38 (by kernel_rfl)) rfl) rfl),
   fun a w hB hfr hdep => Step.plain rfl (Does.run _ (run_eq1 ho1 rfl (hdep 3 39 (by kernel_rfl)) rfl) rfl),
   fun a w hB hfr hdep => Step.plain rfl (dMove (R := Is (.bool bb)) rfl (hfr 1 (by kernel_rfl))),
   fun a w hB hfr hdep => Step.plain rfl (Does.run _ (run_neqD rfl (hdep 4 40 (by kernel_rfl)) (hdep 5 41 (by kernel_rfl))) rfl), trivial⟩
 intro u8 hb8
 simp only [List.take, List.drop, FinAll, Act.put, lA, lS, lZ]
 rintro v36_8 h36_8 v37_8 h37_8 _ rfl _ rfl _ rfl _ rfl _ rfl
 have hO8 := (hO7).trans (hb8.mono (hO7).size)
 have m4_1__8 := block_below hb8 (lt_of_heap m4_1__7) m4_1__7
 refine hK8 _ _ ?_
 clear hK8 K8
 refine wp_cond_true rfl ?_
 refine wp_seq_k fun K9 hK9 => ?_
 refine wp_plain_inv 4 (specs [Rw (r), Rw (0), Is (.bool false), Is (.bool false)]) (specs_stb ⟨Rw.stb _, Rw.stb _, Is.stb _, Is.stb _, trivial⟩) (by kernel_rfl) ?_ ?_
 ·refine ⟨fun a w hB hfr hdep => Step.plain rfl (dMove (R := Rw (r)) rfl (use (hfr 10 (by kernel_rfl)) ((Rw.stb _) _ _ _ hB ((Rw.stb _) _ _ _ hb8 ((Rw.stb _) _ _ _ hb7 h10_6))))),
   fun a w hB hfr hdep => Step.plain rfl (Does.call 28 #[.int .i64 0] (by kernel_rfl) (rInt w 0 (by decide))),
   fun a w hB hfr hdep => Step.plain rfl (Does.call 86 #[(a.eval (.tmp 43)), (a.eval (.tmp 44))] (by kernel_rfl) (rSameF h0 w (hdep 0 43 (by kernel_rfl)) (hdep 1 44 (by kernel_rfl)))),
   fun a w hB hfr hdep => Step.plain rfl (dAssign (R := Is (.bool false)) rfl (hdep 2 45 (by kernel_rfl))), trivial⟩
 intro u9 hb9
 simp only [List.take, List.drop, FinAll, Act.put, lA, lS, lZ]
 rintro v43_9 h43_9 v44_9 h44_9 _ rfl _ rfl
 have hO9 := (hO8).trans (hb9.mono (hO8).size)
 have m4_1__9 := block_below hb9 (lt_of_heap m4_1__8) m4_1__8
 refine hK9 _ _ ?_
 clear hK9 K9
 refine wp_seq_k fun KO10 hKO10 => ?_
 refine wp_seq_k fun K10 hK10 => ?_
 refine wp_plain_inv 1 (specs [Is (.bool false)]) (specs_stb ⟨Is.stb _, trivial⟩) (by kernel_rfl) ?_ ?_
 ·refine ⟨fun a w hB hfr hdep => Step.plain rfl (dMove (R := Is (.bool false)) rfl (hfr 12 (by kernel_rfl))), trivial⟩
 intro u10 hb10
 simp only [List.take, List.drop, FinAll, Act.put, lA, lS, lZ]
 rintro _ rfl
 have hO10 := (hO9).trans (hb10.mono (hO9).size)
 have m4_1__10 := block_below hb10 (lt_of_heap m4_1__9) m4_1__9
 refine hK10 _ _ ?_
 clear hK10 K10
 refine wp_cond_false rfl ?_
 refine wp_skip ?_
 refine hKO10 _ _ ?_
 clear hKO10 KO10
 refine wp_plain_inv 3 (specs [Rw (0), Rw (r), Rw ((0) - (r))]) (specs_stb ⟨Rw.stb _, Rw.stb _, Rw.stb _, trivial⟩) (by kernel_rfl) ?_ ?_
 ·refine ⟨fun a w hB hfr hdep => Step.plain rfl (Does.call 28 #[.int .i64 0] (by kernel_rfl) (rInt w 0 (by decide))),
   fun a w hB hfr hdep => Step.plain rfl (dMove (R := Rw (r)) rfl (use (hfr 10 (by kernel_rfl)) ((Rw.stb _) _ _ _ hB ((Rw.stb _) _ _ _ hb10 ((Rw.stb _) _ _ _ hb9 ((Rw.stb _) _ _ _ hb8 ((Rw.stb _) _ _ _ hb7 h10_6))))))),
   fun a w hB hfr hdep => Step.plain rfl (Does.call 27 #[(a.eval (.tmp 48)), (a.eval (.tmp 49))] (by kernel_rfl) (rSub w (hdep 0 48 (by kernel_rfl)) (hdep 1 49 (by kernel_rfl)))), trivial⟩
 intro u11 hb11
 simp only [List.take, List.drop, FinAll, Act.put, lA, lS, lZ]
 rintro v48_11 h48_11 v49_11 h49_11 v50_11 h50_11
 refine wpList_assign rfl rfl rfl ?_
 simp only [Act.put, Act.eval, Array.getD_eq_getD_getElem?, List.getElem?_toArray, List.getElem?_cons_succ, List.getElem?_cons_zero, Option.getD_some, lA, lS, lZ]
 have hO11 := (hO10).trans (hb11.mono (hO10).size)
 have m4_1__11 := block_below hb11 (lt_of_heap m4_1__10) m4_1__10
 refine hKO8 _ _ ?_
 clear hKO8 KO8
 refine wp_seq_k fun K12 hK12 => ?_
 refine wp_plain_inv 3 (specs [Rw ((0) - (r)), Rw (y), RPt ((0) - (r)) (y)]) (specs_stb ⟨Rw.stb _, Rw.stb _, RPt.stb _ _, trivial⟩) (by kernel_rfl) ?_ ?_
 ·refine ⟨fun a w hB hfr hdep => Step.plain rfl (dMove (R := Rw ((0) - (r))) rfl (use (hfr 10 (by kernel_rfl)) ((Rw.stb _) _ _ _ hB h50_11))),
   fun a w hB hfr hdep => Step.plain rfl (dMove (R := Rw (y)) rfl (use (hfr 0 (by kernel_rfl)) ((Rw.stb _) _ _ _ hB ((Rw.stb _) _ _ _ hb11 ((Rw.stb _) _ _ _ hb10 ((Rw.stb _) _ _ _ hb9 ((Rw.stb _) _ _ _ hb8 ((Rw.stb _) _ _ _ hb7 ((Rw.stb _) _ _ _ hb6 ((Rw.stb _) _ _ _ hb5 ((Rw.stb _) _ _ _ hb4 ((Rw.stb _) _ _ _ hb3 ((Rw.stb _) _ _ _ hb2 ((Rw.stb _) _ _ _ hb1 hy)))))))))))))),
   fun a w hB hfr hdep => Step.plain rfl (dBuild35 rfl (hdep 0 51 (by kernel_rfl)) (hdep 1 52 (by kernel_rfl))), trivial⟩
 intro u12 hb12
 simp only [List.take, List.drop, FinAll, Act.put, lA, lS, lZ]
 rintro v51_12 h51_12 v52_12 h52_12 _ ⟨p53_12, q53_12, rfl, x53_12, y53_12⟩
 have om4_1__11 := block_below hb12 (lt_of_heap m4_1__11) m4_1__11
 refine wpList_store_row rfl 45 (.tmp 4) (.tmp 53) rfl _ (#[p53_12, q53_12]) rfl rfl 45 _ om4_1__11 info35 rfl (rpt_one x53_12 y53_12) ?_
 refine wpList_assign rfl rfl rfl ?_
 simp only [Act.put, Act.eval, lA, lS, lZ]
 have xx := Rw.setRow x53_12 om4_1__11 nz35 (#[p53_12, q53_12])
 have yy := Rw.setRow y53_12 om4_1__11 nz35 (#[p53_12, q53_12])
 have n4_12 := setRow_heap _ _ _ (#[p53_12, q53_12]) _ _ om4_1__11
 have hO12 := setRow_below (hO11.trans (hb12.mono (hO11).size)) lwm4_1 (#[p53_12, q53_12])
 refine hK12 _ _ ?_
 clear hK12 K12
 refine wp_ret ?_
 refine bodyPost_ret (v := .tuple #[.agg (#[p53_12, q53_12]), .bool true]) ?_ rfl ⟨_, rfl, hO12, ⟨_, _, rfl, ⟨_, _, rfl, xx, yy⟩, rfl⟩⟩
 exact results_cell_tmp Tryz.results53 _ _ _ 45 _ (0, 0) _ _ rfl rfl n4_12 Tryz.underlying45 rfl (by first | exact info26 | exact info29 | exact info35 | (rw [(Pt4.cells (by assumption)).1]; exact info29) | (rw [cellsP_size (by assumption)]; exact info29))
theorem rOfPt {p : Pt} {v : Value} {bb : Bool} (hb : decide (p.x.val % 2 = 1) = bb) (w : World) (hy : Rw p.y v w) : Ret 53 #[v, .bool bb] w (Tup2 (RPt p.x p.y) (Is (.bool true))) := by
 obtain ⟨e, he, he8⟩ := e8_ex
 obtain ⟨r1, r2, r3, r4⟩ := pt_root he8 (p := p) rfl
 rw [p.enc_y, fe_of] at r2 r4
 rw [p.enc_odd] at r4
 subst hb
 rcases r4 with ⟨s1, s2⟩ | ⟨s1, s2, s3⟩
 ·have := rOfS he rfl w hy r2 (odd_same s1)
  have e2 : decide (p.x.val % 2 = 1) = decide (p.x.val % 2 = 1) := rfl
  rw [s2]
  rw [s2] at this
  exact this
 ·have h0 : ¬ rootOf e (av p.y) = 0 := fun h0 => by
   rw [h0] at s1 s2
   have e0 : ∀ z : Fe, z = 0 → 0 - z = z := fun z hz => by grobner
   rw [e0 0 rfl] at s2
   rw [s2] at s1
   exact s1 rfl
  have := rOfF he rfl w hy r2 (odd_diff (by omega) s1) h0
  rw [← s2] at this
  exact this
theorem rOfErr {y : Fe} {v : Value} {bb : Bool} (hno : ¬ ∃ p : Pt, p.y = y ∧ decide (p.x.val % 2 = 1) = bb) (w : World) (hy : Rw y v w) : Ret 53 #[v, .bool bb] w (Tup2 (Is (.agg #[.slice none 0 0, .slice none 0 0])) (Is (.bool false))) := by
 obtain ⟨e, he, he8⟩ := e8_ex
 by_cases hs : rootOf e (av y) * rootOf e (av y) = av y
 ·have key : ∀ x : Fe, x * x = av y → decide (x.val % 2 = 1) ≠ bb := fun x hx hp => hno ⟨⟨x, y, (on_iff _ _).2 hx⟩, rfl, hp⟩
  have k1 := key _ hs
  obtain ⟨r, hr⟩ : ∃ r, r = rootOf e (av y) := ⟨_, rfl⟩
  rw [← hr] at hs k1
  have h0 : r = 0 := by
   apply Classical.byContradiction
   intro h0
   have k2 := key (-r) (by rw [← hs]; grobner)
   have := neg_par h0
   rw [this] at k2
   cases bb with
   | true =>
    have a1 : ¬ r.val % 2 = 1 := fun h => k1 (decide_eq_true h)
    exact k2 (decide_eq_true (by omega))
   | false =>
    have a1 : r.val % 2 = 1 := by
     apply Classical.byContradiction
     intro h
     exact k1 (decide_eq_false h)
    exact k2 (decide_eq_false (by omega))
  refine rOfZ he hr.symm w hy hs ?_ h0
  cases hb : decide (r.val % 2 = 1) <;> cases bb <;> simp_all
 ·exact rOfN he rfl w hy hs
end Go.Proofs.YtabgihjffjlfiaaGreatDoor
set_option linter.unusedVariables false
namespace Go.Proofs.YtabgihjffjlfiaaGreatDoor
open Go.RowKit Go.Sort Go.BigFrame
set_option maxRecDepth 100000
set_option maxHeartbeats 2000000
theorem base_y : (fe 4) * (fin (fe 5)) = bp.y := by
 have h0 : (fe 5 : Fe) ≠ 0 := fun h => absurd (congrArg Fin.val h) (by decide)
 have h1 := mul_fin h0
 have h2 : bp.y * fe 5 = fe 4 := by decide
 refine mul_cancel h0 ?_
 rw [h2]
 obtain ⟨i, hi⟩ : ∃ i, i = fin (fe 5) := ⟨_, rfl⟩
 rw [← hi] at h1 ⊢
 obtain ⟨m, hm⟩ : ∃ m, m = fe 5 := ⟨_, rfl⟩
 obtain ⟨n, hn⟩ : ∃ n, n = fe 4 := ⟨_, rfl⟩
 rw [← hm] at h1 ⊢
 rw [← hn]
 clear hm hn hi h0 h2
 grobner
theorem base_even : decide (bp.x.val % 2 = 1) = false := by decide
theorem rOfBase {v : Value} (w : World) (h : Rw ((fe 4) * (fin (fe 5))) v w) : Ret 53 #[v, .bool false] w (Tup2 (RPt bp.x bp.y) (Is (.bool true))) := by
 rw [base_y] at h
 exact rOfPt base_even w h
theorem rBase (w : World) : Ret 22 #[] w (RPt bp.x bp.y) := by
 unfold Ret
 have hO0 : Below w.heap.size w w := Below.refl _ _
 go_enter Tryz.func22, Tryz.ntmps22
 refine wp_seq_k fun K1 hK1 => ?_
 refine wp_plain_inv 1 (specs [Box w.heap.size (#[.slice none 0 0, .slice none 0 0]) 45]) (specs_stb ⟨Box.stb _ _ _, trivial⟩) (by kernel_rfl) ?_ ?_
 ·refine ⟨fun a w hB hfr hdep => Step.plain rfl (dAlloc35 hB.size rfl), trivial⟩
 intro u1 hb1
 simp only [List.take, List.drop, FinAll, Act.put, lA, lZ]
 rintro _ ⟨g0_1, rfl, l0_1, m0_1⟩
 have hO1 := (hO0).trans (hb1.mono (hO0).size)
 have lwm0_1 := Nat.le_trans (hO0).size l0_1
 refine hK1 _ _ ?_
 clear hK1 K1
 refine wp_seq_k fun K2 hK2 => ?_
 refine wp_plain_inv 9 (specs [Rw (fe 4), Rw (fe 5), Rw (fin (fe 5)), Rw ((fe 4) * (fin (fe 5))), Tup2 (RPt (bp.x) (bp.y)) (Is (.bool true)), Tup2 (RPt (bp.x) (bp.y)) (Is (.bool true)), RPt (bp.x) (bp.y), Is (.bool true), Box u1.heap.size (#[.slice none 0 0, .slice none 0 0]) 45]) (specs_stb ⟨Rw.stb _, Rw.stb _, Rw.stb _, Rw.stb _, Tup2.stb (RPt.stb _ _) (Is.stb _), Tup2.stb (RPt.stb _ _) (Is.stb _), RPt.stb _ _, Is.stb _, Box.stb _ _ _, trivial⟩) (by kernel_rfl) ?_ ?_
 ·refine ⟨fun a w hB hfr hdep => Step.plain rfl (Does.call 28 #[.int .i64 4] (by kernel_rfl) (rInt w 4 (by decide))),
   fun a w hB hfr hdep => Step.plain rfl (Does.call 28 #[.int .i64 5] (by kernel_rfl) (rInt w 5 (by decide))),
   fun a w hB hfr hdep => Step.plain rfl (Does.call 51 #[(a.eval (.tmp 5))] (by kernel_rfl) (rInv w (hdep 1 5 (by kernel_rfl)))),
   fun a w hB hfr hdep => Step.plain rfl (Does.call 52 #[(a.eval (.tmp 4)), (a.eval (.tmp 6))] (by kernel_rfl) (rMul w (hdep 0 4 (by kernel_rfl)) (hdep 2 6 (by kernel_rfl)))),
   fun a w hB hfr hdep => Step.plain rfl (Does.call 53 #[(a.eval (.tmp 7)), .bool false] (by kernel_rfl) (rOfBase w (hdep 3 7 (by kernel_rfl)))),
   fun a w hB hfr hdep => Step.plain rfl (dMove (R := Tup2 (RPt (bp.x) (bp.y)) (Is (.bool true))) rfl (hdep 4 8 (by kernel_rfl))),
   fun a w hB hfr hdep => Step.plain rfl (dExt0 rfl (hdep 5 3 (by kernel_rfl))),
   fun a w hB hfr hdep => Step.plain rfl (dExt1 rfl (hdep 5 3 (by kernel_rfl))),
   fun a w hB hfr hdep => Step.plain rfl (dAlloc35 hB.size rfl), trivial⟩
 intro u2 hb2
 simp only [List.take, List.drop, FinAll, Act.put, lA, lS, lZ]
 rintro v4_2 h4_2 v5_2 h5_2 v6_2 h6_2 v7_2 h7_2 v8_2 h8_2 v3_2 h3_2 _ ⟨p9_2, q9_2, rfl, x9_2, y9_2⟩ _ rfl _ ⟨g1_2, rfl, l1_2, m1_2⟩
 refine wpList_store_row rfl 45 (.tmp 1) (.tmp 9) rfl _ (#[p9_2, q9_2]) rfl rfl 45 _ m1_2 info35 rfl (rpt_one x9_2 y9_2) ?_
 have n1_2 := setRow_heap _ _ _ (#[p9_2, q9_2]) _ _ m1_2
 replace hb2 := setRow_below hb2 l1_2 (#[p9_2, q9_2])
 replace x9_2 := Rw.setRow x9_2 m1_2 nz35 (#[p9_2, q9_2])
 replace y9_2 := Rw.setRow y9_2 m1_2 nz35 (#[p9_2, q9_2])
 generalize hw2_1 : u2.setRow g1_2 (#[p9_2, q9_2]) = u2_1 at n1_2 hb2 x9_2 y9_2  ⊢
 clear hw2_1 m1_2
 refine wpList_assign rfl rfl rfl ?_
 simp only [Act.put, Act.eval, Array.getD_eq_getD_getElem?, List.getElem?_toArray, List.getElem?_cons_succ, List.getElem?_cons_zero, Option.getD_some, lA, lS, lZ]
 have hO2 := (hO1).trans (hb2.mono (hO1).size)
 have m0_1__2 := block_below hb2 (lt_of_heap m0_1) m0_1
 have lwn1_2 := Nat.le_trans (hO1).size l1_2
 refine hK2 _ _ ?_
 clear hK2 K2
 refine wp_seq_k fun K3 hK3 => ?_
 refine wp_plain_inv 1 (specs [RPt (bp.x) (bp.y)]) (specs_stb ⟨RPt.stb _ _, trivial⟩) (by kernel_rfl) ?_ ?_
 ·refine ⟨fun a w hB hfr hdep => Step.plain rfl (dLoadRPt x9_2 hB y9_2 (block_below hB (lt_of_heap n1_2) n1_2) rfl (hfr 1 (by kernel_rfl))), trivial⟩
 intro u3 hb3
 simp only [List.take, List.drop, FinAll, Act.put, lA, lS, lZ]
 rintro _ ⟨p11_3, q11_3, rfl, x11_3, y11_3⟩
 have om0_1__2 := block_below hb3 (lt_of_heap m0_1__2) m0_1__2
 refine wpList_store_row rfl 45 (.tmp 0) (.tmp 11) rfl _ (#[p11_3, q11_3]) rfl rfl 45 _ om0_1__2 info35 rfl (rpt_one x11_3 y11_3) ?_
 have xx := Rw.setRow x11_3 om0_1__2 nz35 (#[p11_3, q11_3])
 have yy := Rw.setRow y11_3 om0_1__2 nz35 (#[p11_3, q11_3])
 have n0_3 := setRow_heap _ _ _ (#[p11_3, q11_3]) _ _ om0_1__2
 have hO3 := setRow_below (hO2.trans (hb3.mono (hO2).size)) lwm0_1 (#[p11_3, q11_3])
 refine hK3 _ _ ?_
 clear hK3 K3
 refine wp_ret ?_
 refine bodyPost_ret (v := .agg (#[p11_3, q11_3])) ?_ rfl ⟨_, rfl, hO3, ⟨_, _, rfl, xx, yy⟩⟩
 exact results_cell_row Tryz.results22 _ _ _ 45 _ (0, 0) _ rfl n0_3 Tryz.underlying45 rfl (by first | exact info26 | exact info29 | exact info35 | (rw [(Pt4.cells (by assumption)).1]; exact info29) | (rw [cellsP_size (by assumption)]; exact info29))
theorem rPBytes {x1 y1 : Fe} {v1 : Value} (w : World) (h1 : RPt x1 y1 v1 w) : Ret 20 #[v1] w (OwnC w.heap.size (digs 32 (y1.val + t255 * (x1.val % 2)))) := by
 obtain ⟨p1, q1, rfl, hx1, hy1⟩ := h1
 unfold Ret
 by_cases hodd : x1.val % 2 = 1
 ·have hO0 : Below w.heap.size w w := Below.refl _ _
  go_enter Tryz.func20, Tryz.ntmps20
  refine wp_seq_k fun K1 hK1 => ?_
  refine wp_plain_inv 2 (specs [Box w.heap.size (#[p1, q1]) 45, Is (.slice none 0 0)]) (specs_stb ⟨Box.stb _ _ _, Is.stb _, trivial⟩) (by kernel_rfl) ?_ ?_
  ·refine ⟨fun a w hB hfr hdep => Step.plain rfl (dBox35 hB.size rfl (hfr 0 (by kernel_rfl)) ⟨hx1, hy1⟩),
    fun a w hB hfr hdep => Step.plain rfl (dAssign (R := Is (.slice none 0 0)) rfl rfl), trivial⟩
  intro u1 hb1
  simp only [List.take, List.drop, FinAll, Act.put, lA, lS, lZ]
  rintro _ ⟨g1_1, rfl, l1_1, m1_1⟩ _ rfl
  have hO1 := (hO0).trans (hb1.mono (hO0).size)
  have lwm1_1 := Nat.le_trans (hO0).size l1_1
  refine hK1 _ _ ?_
  clear hK1 K1
  refine wp_seq_k fun K2 hK2 => ?_
  refine wp_plain_inv 4 (specs [Is (.pointer (some ⟨g1_1, 1, none⟩)), Rw (y1), OwnC u1.heap.size (digs 32 (Fin.val (y1))), OwnC u1.heap.size (digs 32 (Fin.val (y1)))]) (specs_stb ⟨Is.stb _, Rw.stb _, OwnC.stb _ _, OwnC.stb _ _, trivial⟩) (by kernel_rfl) ?_ ?_
  ·refine ⟨fun a w hB hfr hdep => Step.plain rfl (dFa35 g1_1 1 (by decide) rfl (hfr 1 (by kernel_rfl))),
    fun a w hB hfr hdep => Step.plain rfl (dLoadR1 (Rw.stb _ _ _ _ hb1 hx1) hB (Rw.stb _ _ _ _ hb1 hy1) (block_below hB (lt_of_heap m1_1) m1_1) rfl (hdep 0 4 (by kernel_rfl))),
    fun a w hB hfr hdep => Step.plain rfl (Does.call 48 #[(a.eval (.tmp 5))] (by kernel_rfl) (ownCLo hB.size (rBytes (vd _) w (Rw.drow (hdep 1 5 (by kernel_rfl))) (by rw [digs_len]; omega) (digs_dig _ _)))),
    fun a w hB hfr hdep => Step.plain rfl (dAssign (R := OwnC u1.heap.size (digs 32 (Fin.val (y1)))) rfl (hdep 2 6 (by kernel_rfl))), trivial⟩
  intro u2 hb2
  simp only [List.take, List.drop, FinAll, Act.put, lA, lS, lZ]
  rintro _ rfl v5_2 h5_2 v6_2 h6_2 v3_2 h3_2
  have hO2 := (hO1).trans (hb2.mono (hO1).size)
  have m1_1__2 := block_below hb2 (lt_of_heap m1_1) m1_1
  refine hK2 _ _ ?_
  clear hK2 K2
  refine wp_seq_k fun KO hKO => ?_
  refine wp_seq_k fun K3 hK3 => ?_
  refine wp_plain_inv 6 (specs [Is (.pointer (some ⟨g1_1, 0, none⟩)), Rw (x1), Fst (x1), Is (.int .i64 ((Fin.val (x1) % 256 : Nat) : Int)), Is (.int .i64 ((Fin.val (x1) % 2 : Nat) : Int)), Is (.bool true)]) (specs_stb ⟨Is.stb _, Rw.stb _, Fst.stb _, Is.stb _, Is.stb _, Is.stb _, trivial⟩) (by kernel_rfl) ?_ ?_
  ·refine ⟨fun a w hB hfr hdep => Step.plain rfl (dFa35 g1_1 0 (by decide) rfl (hfr 1 (by kernel_rfl))),
    fun a w hB hfr hdep => Step.plain rfl (dLoadR0 (Rw.stb _ _ _ _ hb2 (Rw.stb _ _ _ _ hb1 hx1)) hB (Rw.stb _ _ _ _ hb2 (Rw.stb _ _ _ _ hb1 hy1)) (block_below hB (lt_of_heap m1_1__2) m1_1__2) rfl (hdep 0 7 (by kernel_rfl))),
    fun a w hB hfr hdep => Step.plain rfl (dFst rfl (hdep 1 8 (by kernel_rfl)) rfl),
    fun a w hB hfr hdep => Step.plain rfl (dLoadFst rfl (hdep 2 9 (by kernel_rfl))),
    fun a w hB hfr hdep => Step.plain rfl (Does.run _ (run_rem2 rfl (hdep 3 10 (by kernel_rfl)) rfl) rfl),
    fun a w hB hfr hdep => Step.plain rfl (Does.run _ (run_eq1 (decide_eq_true hodd) rfl (hdep 4 11 (by kernel_rfl)) rfl) rfl), trivial⟩
  intro u3 hb3
  simp only [List.take, List.drop, FinAll, Act.put, lA, lS, lZ]
  rintro _ rfl v8_3 h8_3 v9_3 h9_3 _ rfl _ rfl _ rfl
  have hO3 := (hO2).trans (hb3.mono (hO2).size)
  have m1_1__3 := block_below hb3 (lt_of_heap m1_1__2) m1_1__2
  refine hK3 _ _ ?_
  clear hK3 K3
  obtain ⟨g3, cap3, cur3, hv3, hl3, hrow3, hc3, hc3', hcur⟩ := ((OwnC.stb _ _) _ _ _ hb3 h3_2)
  rw [digs_len] at hv3 hc3 hcur
  subst hv3
  have hlow : w.heap.size ≤ g3 := Nat.le_trans hO1.size hl3
  have hO := hO3
  refine wp_cond_true rfl ?_
  have c31 := cell_of_row _ g3 31 _ _ _ hrow3
  rw [hcur 31 (by omega), digs_get _ _ _ (by omega)] at c31
  have f31 := frozen_of_row _ g3 31 _ _ hrow3
  have hst := cur_set hrow3 (by rw [digs_len]; exact hcur) 31 (y1.val / 256 ^ 31 + 128) (by rw [digs_len]; omega)
  rw [digs_high (by have := y1.isLt; have := pp_t; omega)] at hst
  have hy128 : y1.val / 256 ^ 31 < 128 := by rw [Nat.div_lt_iff_lt_mul (pos256 31), Nat.mul_comm, p31]; have := y1.isLt; have := pp_t; omega
  rw [Nat.mod_eq_of_lt (show y1.val / 256 ^ 31 < 256 by omega)] at c31
  have hOs := hO.setCell (p := ⟨g3, 31, none⟩) hlow (.int .u8 ((y1.val / 256 ^ 31 + 128 : Nat) : Int))
  obtain ⟨z, hz⟩ : ∃ z, z = y1.val / 256 ^ 31 := ⟨_, rfl⟩
  rw [← hz] at c31 hst hOs hy128
  obtain ⟨zz, hzz⟩ : ∃ zz, zz = z + 128 := ⟨_, rfl⟩
  rw [← hzz] at hst hOs
  have hw8 : IntKind.u8.wrap ((z : Int) + 128) = (zz : Int) := by rw [hzz]; simp [IntKind.wrap, IntKind.bits, IntKind.signed]; omega
  have hw9 : ((z : Int) + 128) % 256 = (zz : Int) := by rw [hzz]; omega
  have hw7 : ((z : Int) + 128) = (zz : Int) := by rw [hzz]; omega
  have HST : Hid _ := hst
  have HOS : Hid _ := hOs
  have HKO : Hid _ := hKO
  clear hst hOs hzz hz hKO
  go_wp2
  refine HKO.out _ _ ?_
  clear HKO
  go_wp2
  go_ret
  exact ⟨_, rfl, HOS.out, g3, cap3, _, by rw [digs_len]; rfl, hlow, HST.out.1, by rw [digs_len]; exact hc3, hc3', fun i hi => by rw [hodd, Nat.mul_one] at hi ⊢; exact HST.out.2 i hi⟩
 ·have hO0 : Below w.heap.size w w := Below.refl _ _
  go_enter Tryz.func20, Tryz.ntmps20
  refine wp_seq_k fun K1 hK1 => ?_
  refine wp_plain_inv 2 (specs [Box w.heap.size (#[p1, q1]) 45, Is (.slice none 0 0)]) (specs_stb ⟨Box.stb _ _ _, Is.stb _, trivial⟩) (by kernel_rfl) ?_ ?_
  ·refine ⟨fun a w hB hfr hdep => Step.plain rfl (dBox35 hB.size rfl (hfr 0 (by kernel_rfl)) ⟨hx1, hy1⟩),
    fun a w hB hfr hdep => Step.plain rfl (dAssign (R := Is (.slice none 0 0)) rfl rfl), trivial⟩
  intro u1 hb1
  simp only [List.take, List.drop, FinAll, Act.put, lA, lS, lZ]
  rintro _ ⟨g1_1, rfl, l1_1, m1_1⟩ _ rfl
  have hO1 := (hO0).trans (hb1.mono (hO0).size)
  have lwm1_1 := Nat.le_trans (hO0).size l1_1
  refine hK1 _ _ ?_
  clear hK1 K1
  refine wp_seq_k fun K2 hK2 => ?_
  refine wp_plain_inv 4 (specs [Is (.pointer (some ⟨g1_1, 1, none⟩)), Rw (y1), OwnC u1.heap.size (digs 32 (Fin.val (y1))), OwnC u1.heap.size (digs 32 (Fin.val (y1)))]) (specs_stb ⟨Is.stb _, Rw.stb _, OwnC.stb _ _, OwnC.stb _ _, trivial⟩) (by kernel_rfl) ?_ ?_
  ·refine ⟨fun a w hB hfr hdep => Step.plain rfl (dFa35 g1_1 1 (by decide) rfl (hfr 1 (by kernel_rfl))),
    fun a w hB hfr hdep => Step.plain rfl (dLoadR1 (Rw.stb _ _ _ _ hb1 hx1) hB (Rw.stb _ _ _ _ hb1 hy1) (block_below hB (lt_of_heap m1_1) m1_1) rfl (hdep 0 4 (by kernel_rfl))),
    fun a w hB hfr hdep => Step.plain rfl (Does.call 48 #[(a.eval (.tmp 5))] (by kernel_rfl) (ownCLo hB.size (rBytes (vd _) w (Rw.drow (hdep 1 5 (by kernel_rfl))) (by rw [digs_len]; omega) (digs_dig _ _)))),
    fun a w hB hfr hdep => Step.plain rfl (dAssign (R := OwnC u1.heap.size (digs 32 (Fin.val (y1)))) rfl (hdep 2 6 (by kernel_rfl))), trivial⟩
  intro u2 hb2
  simp only [List.take, List.drop, FinAll, Act.put, lA, lS, lZ]
  rintro _ rfl v5_2 h5_2 v6_2 h6_2 v3_2 h3_2
  have hO2 := (hO1).trans (hb2.mono (hO1).size)
  have m1_1__2 := block_below hb2 (lt_of_heap m1_1) m1_1
  refine hK2 _ _ ?_
  clear hK2 K2
  refine wp_seq_k fun KO hKO => ?_
  refine wp_seq_k fun K3 hK3 => ?_
  refine wp_plain_inv 6 (specs [Is (.pointer (some ⟨g1_1, 0, none⟩)), Rw (x1), Fst (x1), Is (.int .i64 ((Fin.val (x1) % 256 : Nat) : Int)), Is (.int .i64 ((Fin.val (x1) % 2 : Nat) : Int)), Is (.bool false)]) (specs_stb ⟨Is.stb _, Rw.stb _, Fst.stb _, Is.stb _, Is.stb _, Is.stb _, trivial⟩) (by kernel_rfl) ?_ ?_
  ·refine ⟨fun a w hB hfr hdep => Step.plain rfl (dFa35 g1_1 0 (by decide) rfl (hfr 1 (by kernel_rfl))),
    fun a w hB hfr hdep => Step.plain rfl (dLoadR0 (Rw.stb _ _ _ _ hb2 (Rw.stb _ _ _ _ hb1 hx1)) hB (Rw.stb _ _ _ _ hb2 (Rw.stb _ _ _ _ hb1 hy1)) (block_below hB (lt_of_heap m1_1__2) m1_1__2) rfl (hdep 0 7 (by kernel_rfl))),
    fun a w hB hfr hdep => Step.plain rfl (dFst rfl (hdep 1 8 (by kernel_rfl)) rfl),
    fun a w hB hfr hdep => Step.plain rfl (dLoadFst rfl (hdep 2 9 (by kernel_rfl))),
    fun a w hB hfr hdep => Step.plain rfl (Does.run _ (run_rem2 rfl (hdep 3 10 (by kernel_rfl)) rfl) rfl),
    fun a w hB hfr hdep => Step.plain rfl (Does.run _ (run_eq1 (decide_eq_false hodd) rfl (hdep 4 11 (by kernel_rfl)) rfl) rfl), trivial⟩
  intro u3 hb3
  simp only [List.take, List.drop, FinAll, Act.put, lA, lS, lZ]
  rintro _ rfl v8_3 h8_3 v9_3 h9_3 _ rfl _ rfl _ rfl
  have hO3 := (hO2).trans (hb3.mono (hO2).size)
  have m1_1__3 := block_below hb3 (lt_of_heap m1_1__2) m1_1__2
  refine hK3 _ _ ?_
  clear hK3 K3
  obtain ⟨g3, cap3, cur3, hv3, hl3, hrow3, hc3, hc3', hcur⟩ := ((OwnC.stb _ _) _ _ _ hb3 h3_2)
  rw [digs_len] at hv3 hc3 hcur
  subst hv3
  have hlow : w.heap.size ≤ g3 := Nat.le_trans hO1.size hl3
  have hO := hO3
  refine wp_cond_false rfl ?_
  refine wp_skip ?_
  refine hKO _ _ ?_
  clear hKO
  have e0 : y1.val + t255 * (x1.val % 2) = y1.val := by rw [show x1.val % 2 = 0 by omega, Nat.mul_zero, Nat.add_zero]
  have HE0 : Hid _ := e0
  clear e0
  go_wp2
  go_ret
  exact ⟨_, rfl, hO, g3, cap3, cur3, by rw [digs_len]; rfl, hlow, hrow3, by rw [digs_len]; exact hc3, hc3', fun i hi => by rw [HE0.out]; exact hcur i (by rw [digs_len] at hi; exact hi)⟩
end Go.Proofs.YtabgihjffjlfiaaGreatDoor
set_option linter.unusedVariables false
namespace Go.Proofs.YtabgihjffjlfiaaGreatDoor
def Fr (X Y Z : Fe) (p : Pt) : Prop := Z ≠ 0 ∧ p.x * Z = X ∧ p.y * Z = Y
theorem fr_zero : Fr 0 1 1 Pt.zero := ⟨one_ne, by show (0 : Fe) * 1 = 0; grobner, by show (1 : Fe) * 1 = 1; grobner⟩
theorem fr_aff (p : Pt) : Fr p.x p.y 1 p := ⟨one_ne, by grobner, by grobner⟩
theorem fr_back {X Y Z : Fe} {p : Pt} (h : Fr X Y Z p) : X * fin Z = p.x ∧ Y * fin Z = p.y := by
 obtain ⟨h0, h1, h2⟩ := h
 have hi := mul_fin h0
 constructor
 ·rw [← h1]; grobner
 ·rw [← h2]; grobner
theorem fr_add {X1 Y1 Z1 X2 Y2 Z2 : Fe} {p q : Pt} (h1 : Fr X1 Y1 Z1 p) (h2 : Fr X2 Y2 Z2 q) {z k P M : Fe} (hz : z = Z1 * Z2) (hk : k = dd * ((X1 * X2) * (Y1 * Y2))) (hP : P = z * z + k) (hM : M = z * z - k) :
  Fr (z * (M * (X1 * Y2 + Y1 * X2))) (z * (P * (Y1 * Y2 + X1 * X2))) (P * M) (p.add q) := by
 obtain ⟨z1, a1, b1⟩ := h1
 obtain ⟨z2, a2, b2⟩ := h2
 have n1 := den1 p.on q.on
 have n2 := den2 p.on q.on
 have sx := p.addX q
 have sy := p.addY q
 have zz : Z1 * Z2 ≠ 0 := mul_ne z1 z2
 have fP : P = (Z1 * Z2) * (Z1 * Z2) * (1 + dd * (p.x * q.x) * (p.y * q.y)) := by rw [hP, hz, hk, ← a1, ← a2, ← b1, ← b2]; grobner
 have fM : M = (Z1 * Z2) * (Z1 * Z2) * (1 - dd * (p.x * q.x) * (p.y * q.y)) := by rw [hM, hz, hk, ← a1, ← a2, ← b1, ← b2]; grobner
 have fX : X1 * Y2 + Y1 * X2 = (Z1 * Z2) * (p.x * q.y + p.y * q.x) := by rw [← a1, ← a2, ← b1, ← b2]; grobner
 have fY : Y1 * Y2 + X1 * X2 = (Z1 * Z2) * (p.y * q.y + p.x * q.x) := by rw [← a1, ← a2, ← b1, ← b2]; grobner
 refine ⟨?_, ?_, ?_⟩
 ·rw [fP, fM]; exact mul_ne (mul_ne (mul_ne zz zz) n1) (mul_ne (mul_ne zz zz) n2)
 ·rw [fX, ← sx, hz, fP]; grobner
 ·rw [fY, ← sy, hz, fM]; grobner
end Go.Proofs.YtabgihjffjlfiaaGreatDoor
set_option linter.unusedVariables false
namespace Go.Proofs.YtabgihjffjlfiaaGreatDoor
open Go.RowKit Go.Sort Go.BigFrame
set_option maxRecDepth 100000
set_option maxHeartbeats 2000000
def FrV (x y z : Fe) (v : Value) (w : World) : Prop := ∃ p q r, v = .agg #[p, q, r] ∧ Rw x p w ∧ Rw y q w ∧ Rw z r w
theorem FrV.stb (x y z : Fe) : Stb (FrV x y z) := fun _ _ _ hb ⟨p, q, r, h1, h2, h3, h4⟩ => ⟨p, q, r, h1, Rw.stb _ _ _ _ hb h2, Rw.stb _ _ _ _ hb h3, Rw.stb _ _ _ _ hb h4⟩
theorem fr_one {x y z : Fe} {p q r : Value} {w w' w'' : World} (h1 : Rw x p w) (h2 : Rw y q w') (h3 : Rw z r w'') : (#[p, q, r] : Array Value).all (·.oneCell') = true := by simp [h1.one, h2.one, h3.one]
theorem nz68 : ∀ (i : Nat) (n : Int), (#[.slice none 0 0, .slice none 0 0, .slice none 0 0] : Array Value)[i]? ≠ some (.int .i64 n) := by
 intro i n h
 match i with
 | 0 => simp at h
 | 1 => simp at h
 | 2 => simp at h
 | i + 3 => simp at h
theorem infoFr : (Tryz.prog.info? 76).map (·.size) = some 3 := by kernel_rfl
section
variable {ρ : Operand → Value} {o : Oper} {x y z t : Operand} {w : World}
theorem dFa68 (g k : Nat) (hk : k < 3) (ho : o.op = .fieldAddr 76 x k) (hx : ρ x = .pointer (some ⟨g, 0, none⟩)) : Does Tryz.prog o ρ w (fun v w' => Below w.heap.size w w' ∧ Is (.pointer (some ⟨g, k, none⟩)) v w') := by
 refine Does.run _ ?_ rfl
 simp only [execOp, ho, hx]
 rcases (by omega : k = 0 ∨ k = 1 ∨ k = 2) with rfl | rfl | rfl <;> kernel_rfl
theorem dBuild68 {X Y Z : Fe} (ho : o.op = .build 76 #[(0, x), (1, y), (2, z)]) (hx : Rw X (ρ x) w) (hy : Rw Y (ρ y) w) (hz : Rw Z (ρ z) w) : Does Tryz.prog o ρ w (fun v w' => Below w.heap.size w w' ∧ FrV X Y Z v w') := by
 obtain ⟨a, ca, e1, h1⟩ := id hx
 obtain ⟨b, cb, e2, h2⟩ := id hy
 obtain ⟨c, cc, e3, h3⟩ := id hz
 exact Does.run (.agg #[.slice a 32 ca, .slice b 32 cb, .slice c 32 cc]) (by simp only [execOp, ho, List.map_toArray, List.map, e1, e2, e3]; kernel_rfl) ⟨_, _, _, rfl, ⟨a, ca, rfl, h1⟩, ⟨b, cb, rfl, h2⟩, ⟨c, cc, rfl, h3⟩⟩
theorem dBox1068 {lo : Nat} {X Y Z : Fe} {p q r : Value} {u : World} (hlo : lo ≤ w.heap.size) (ho : o.op = .box 76 x) (hx : ρ x = .agg #[p, q, r]) (h : Rw X p u ∧ Rw Y q u ∧ Rw Z r u) : Does Tryz.prog o ρ w (fun v w' => Below w.heap.size w w' ∧ Box lo #[p, q, r] 76 v w') := by
 obtain ⟨⟨a, ca, rfl, _⟩, ⟨b, cb, rfl, _⟩, ⟨c, cc, rfl, _⟩⟩ := h
 exact Does.new _ (.cells #[.slice a 32 ca, .slice b 32 cb, .slice c 32 cc] 76) (by simp only [execOp, ho, hx]; kernel_rfl) ⟨_, rfl, hlo, heap_alloc_new _ _⟩
theorem dAlloc1068 {lo : Nat} (hlo : lo ≤ w.heap.size) (ho : o.op = .alloc 76) : Does Tryz.prog o ρ w (fun v w' => Below w.heap.size w w' ∧ Box lo #[.slice none 0 0, .slice none 0 0, .slice none 0 0] 76 v w') :=
 Does.new _ (.cells #[.slice none 0 0, .slice none 0 0, .slice none 0 0] 76) (by simp only [execOp, ho]; kernel_rfl) ⟨_, rfl, hlo, heap_alloc_new _ _⟩
theorem dLoadF0 {X Y Z : Fe} {p q r : Value} {u : World} {g tt : Nat} {fr : Nat × Nat} (hB : Below u.heap.size u w) (hx : Rw X p u) (hy : Rw Y q u) (hz : Rw Z r u) (h : w.heap[g]? = some (.cells #[p, q, r] tt fr)) (ho : o.op = .load 43 x) (hp : ρ x = .pointer (some ⟨g, 0, none⟩)) : Does Tryz.prog o ρ w (fun v w' => Below w.heap.size w w' ∧ Rw X v w') := by
 have hc := cell_of_row w g 0 _ _ _ h
 have h' := Rw.stb _ _ _ _ hB hx
 obtain ⟨a, ca, rfl, _⟩ := id h'
 exact Does.run _ (run_load33 ho hp hc) h'
theorem dLoadF1 {X Y Z : Fe} {p q r : Value} {u : World} {g tt : Nat} {fr : Nat × Nat} (hB : Below u.heap.size u w) (hx : Rw X p u) (hy : Rw Y q u) (hz : Rw Z r u) (h : w.heap[g]? = some (.cells #[p, q, r] tt fr)) (ho : o.op = .load 43 x) (hp : ρ x = .pointer (some ⟨g, 1, none⟩)) : Does Tryz.prog o ρ w (fun v w' => Below w.heap.size w w' ∧ Rw Y v w') := by
 have hc := cell_of_row w g 1 _ _ _ h
 have h' := Rw.stb _ _ _ _ hB hy
 obtain ⟨a, ca, rfl, _⟩ := id h'
 exact Does.run _ (run_load33 ho hp hc) h'
theorem dLoadF2 {X Y Z : Fe} {p q r : Value} {u : World} {g tt : Nat} {fr : Nat × Nat} (hB : Below u.heap.size u w) (hx : Rw X p u) (hy : Rw Y q u) (hz : Rw Z r u) (h : w.heap[g]? = some (.cells #[p, q, r] tt fr)) (ho : o.op = .load 43 x) (hp : ρ x = .pointer (some ⟨g, 2, none⟩)) : Does Tryz.prog o ρ w (fun v w' => Below w.heap.size w w' ∧ Rw Z v w') := by
 have hc := cell_of_row w g 2 _ _ _ h
 have h' := Rw.stb _ _ _ _ hB hz
 obtain ⟨a, ca, rfl, _⟩ := id h'
 exact Does.run _ (run_load33 ho hp hc) h'
end
theorem rAddF {x1 y1 z1 x2 y2 z2 : Fe} {v1 v2 v3 : Value} (w : World) (h1 : FrV x1 y1 z1 v1 w) (h2 : FrV x2 y2 z2 v2 w) (hd : Rw dd v3 w) : Ret 50 #[v1, v2, v3] w (FrV (((z1) * (z2)) * (((((z1) * (z2)) * ((z1) * (z2))) - ((dd) * (((x1) * (x2)) * ((y1) * (y2))))) * (((x1) * (y2)) + ((y1) * (x2))))) (((z1) * (z2)) * (((((z1) * (z2)) * ((z1) * (z2))) + ((dd) * (((x1) * (x2)) * ((y1) * (y2))))) * (((y1) * (y2)) + ((x1) * (x2))))) (((((z1) * (z2)) * ((z1) * (z2))) + ((dd) * (((x1) * (x2)) * ((y1) * (y2))))) * ((((z1) * (z2)) * ((z1) * (z2))) - ((dd) * (((x1) * (x2)) * ((y1) * (y2))))))) := by
 obtain ⟨p1, q1, r1, rfl, hx1, hy1, hz1⟩ := h1
 obtain ⟨p2, q2, r2, rfl, hx2, hy2, hz2⟩ := h2
 unfold Ret
 have hO0 : Below w.heap.size w w := Below.refl _ _
 go_enter Tryz.func50, Tryz.ntmps50
 refine wp_seq_k fun K1 hK1 => ?_
 refine wp_plain_inv 3 (specs [Box w.heap.size (#[p1, q1, r1]) 76, Box w.heap.size (#[p2, q2, r2]) 76, Box w.heap.size (#[.slice none 0 0, .slice none 0 0, .slice none 0 0]) 76]) (specs_stb ⟨Box.stb _ _ _, Box.stb _ _ _, Box.stb _ _ _, trivial⟩) (by kernel_rfl) ?_ ?_
 ·refine ⟨fun a w hB hfr hdep => Step.plain rfl (dBox1068 hB.size rfl (hfr 0 (by kernel_rfl)) ⟨hx1, hy1, hz1⟩),
   fun a w hB hfr hdep => Step.plain rfl (dBox1068 hB.size rfl (hfr 1 (by kernel_rfl)) ⟨hx2, hy2, hz2⟩),
   fun a w hB hfr hdep => Step.plain rfl (dAlloc1068 hB.size rfl), trivial⟩
 intro u1 hb1
 simp only [List.take, List.drop, FinAll, Act.put, lA, lS, lZ]
 rintro _ ⟨g3_1, rfl, l3_1, m3_1⟩ _ ⟨g4_1, rfl, l4_1, m4_1⟩ _ ⟨g6_1, rfl, l6_1, m6_1⟩
 have hO1 := (hO0).trans (hb1.mono (hO0).size)
 have lwm3_1 := Nat.le_trans (hO0).size l3_1
 have lwm4_1 := Nat.le_trans (hO0).size l4_1
 have lwm6_1 := Nat.le_trans (hO0).size l6_1
 refine hK1 _ _ ?_
 clear hK1 K1
 refine wp_seq_k fun K2 hK2 => ?_
 refine wp_plain_inv 6 (specs [Is (.pointer (some ⟨g3_1, 2, none⟩)), Rw (z1), Is (.pointer (some ⟨g4_1, 2, none⟩)), Rw (z2), Rw ((z1) * (z2)), Rw ((z1) * (z2))]) (specs_stb ⟨Is.stb _, Rw.stb _, Is.stb _, Rw.stb _, Rw.stb _, Rw.stb _, trivial⟩) (by kernel_rfl) ?_ ?_
 ·refine ⟨fun a w hB hfr hdep => Step.plain rfl (dFa68 g3_1 2 (by decide) rfl (hfr 3 (by kernel_rfl))),
   fun a w hB hfr hdep => Step.plain rfl (dLoadF2 hB (Rw.stb _ _ _ _ hb1 hx1) (Rw.stb _ _ _ _ hb1 hy1) (Rw.stb _ _ _ _ hb1 hz1) (block_below hB (lt_of_heap m3_1) m3_1) rfl (hdep 0 18 (by kernel_rfl))),
   fun a w hB hfr hdep => Step.plain rfl (dFa68 g4_1 2 (by decide) rfl (hfr 4 (by kernel_rfl))),
   fun a w hB hfr hdep => Step.plain rfl (dLoadF2 hB (Rw.stb _ _ _ _ hb1 hx2) (Rw.stb _ _ _ _ hb1 hy2) (Rw.stb _ _ _ _ hb1 hz2) (block_below hB (lt_of_heap m4_1) m4_1) rfl (hdep 2 20 (by kernel_rfl))),
   fun a w hB hfr hdep => Step.plain rfl (Does.call 52 #[(a.eval (.tmp 19)), (a.eval (.tmp 21))] (by kernel_rfl) (rMul w (hdep 1 19 (by kernel_rfl)) (hdep 3 21 (by kernel_rfl)))),
   fun a w hB hfr hdep => Step.plain rfl (dAssign (R := Rw ((z1) * (z2))) rfl (hdep 4 22 (by kernel_rfl))), trivial⟩
 intro u2 hb2
 simp only [List.take, List.drop, FinAll, Act.put, lA, lS, lZ]
 rintro _ rfl v19_2 h19_2 _ rfl v21_2 h21_2 v22_2 h22_2 v7_2 h7_2
 have hO2 := (hO1).trans (hb2.mono (hO1).size)
 have m3_1__2 := block_below hb2 (lt_of_heap m3_1) m3_1
 have m4_1__2 := block_below hb2 (lt_of_heap m4_1) m4_1
 have m6_1__2 := block_below hb2 (lt_of_heap m6_1) m6_1
 refine hK2 _ _ ?_
 clear hK2 K2
 refine wp_seq_k fun K3 hK3 => ?_
 refine wp_plain_inv 4 (specs [Rw ((z1) * (z2)), Rw ((z1) * (z2)), Rw (((z1) * (z2)) * ((z1) * (z2))), Rw (((z1) * (z2)) * ((z1) * (z2)))]) (specs_stb ⟨Rw.stb _, Rw.stb _, Rw.stb _, Rw.stb _, trivial⟩) (by kernel_rfl) ?_ ?_
 ·refine ⟨fun a w hB hfr hdep => Step.plain rfl (dMove (R := Rw ((z1) * (z2))) rfl (use (hfr 7 (by kernel_rfl)) ((Rw.stb _) _ _ _ hB h7_2))),
   fun a w hB hfr hdep => Step.plain rfl (dMove (R := Rw ((z1) * (z2))) rfl (use (hfr 7 (by kernel_rfl)) ((Rw.stb _) _ _ _ hB h7_2))),
   fun a w hB hfr hdep => Step.plain rfl (Does.call 52 #[(a.eval (.tmp 23)), (a.eval (.tmp 24))] (by kernel_rfl) (rMul w (hdep 0 23 (by kernel_rfl)) (hdep 1 24 (by kernel_rfl)))),
   fun a w hB hfr hdep => Step.plain rfl (dAssign (R := Rw (((z1) * (z2)) * ((z1) * (z2)))) rfl (hdep 2 25 (by kernel_rfl))), trivial⟩
 intro u3 hb3
 simp only [List.take, List.drop, FinAll, Act.put, lA, lS, lZ]
 rintro v23_3 h23_3 v24_3 h24_3 v25_3 h25_3 v8_3 h8_3
 have hO3 := (hO2).trans (hb3.mono (hO2).size)
 have m3_1__3 := block_below hb3 (lt_of_heap m3_1__2) m3_1__2
 have m4_1__3 := block_below hb3 (lt_of_heap m4_1__2) m4_1__2
 have m6_1__3 := block_below hb3 (lt_of_heap m6_1__2) m6_1__2
 refine hK3 _ _ ?_
 clear hK3 K3
 refine wp_seq_k fun K4 hK4 => ?_
 refine wp_plain_inv 6 (specs [Is (.pointer (some ⟨g3_1, 0, none⟩)), Rw (x1), Is (.pointer (some ⟨g4_1, 1, none⟩)), Rw (y2), Rw ((x1) * (y2)), Rw ((x1) * (y2))]) (specs_stb ⟨Is.stb _, Rw.stb _, Is.stb _, Rw.stb _, Rw.stb _, Rw.stb _, trivial⟩) (by kernel_rfl) ?_ ?_
 ·refine ⟨fun a w hB hfr hdep => Step.plain rfl (dFa68 g3_1 0 (by decide) rfl (hfr 3 (by kernel_rfl))),
   fun a w hB hfr hdep => Step.plain rfl (dLoadF0 hB (Rw.stb _ _ _ _ hb3 (Rw.stb _ _ _ _ hb2 (Rw.stb _ _ _ _ hb1 hx1))) (Rw.stb _ _ _ _ hb3 (Rw.stb _ _ _ _ hb2 (Rw.stb _ _ _ _ hb1 hy1))) (Rw.stb _ _ _ _ hb3 (Rw.stb _ _ _ _ hb2 (Rw.stb _ _ _ _ hb1 hz1))) (block_below hB (lt_of_heap m3_1__3) m3_1__3) rfl (hdep 0 26 (by kernel_rfl))),
   fun a w hB hfr hdep => Step.plain rfl (dFa68 g4_1 1 (by decide) rfl (hfr 4 (by kernel_rfl))),
   fun a w hB hfr hdep => Step.plain rfl (dLoadF1 hB (Rw.stb _ _ _ _ hb3 (Rw.stb _ _ _ _ hb2 (Rw.stb _ _ _ _ hb1 hx2))) (Rw.stb _ _ _ _ hb3 (Rw.stb _ _ _ _ hb2 (Rw.stb _ _ _ _ hb1 hy2))) (Rw.stb _ _ _ _ hb3 (Rw.stb _ _ _ _ hb2 (Rw.stb _ _ _ _ hb1 hz2))) (block_below hB (lt_of_heap m4_1__3) m4_1__3) rfl (hdep 2 28 (by kernel_rfl))),
   fun a w hB hfr hdep => Step.plain rfl (Does.call 52 #[(a.eval (.tmp 27)), (a.eval (.tmp 29))] (by kernel_rfl) (rMul w (hdep 1 27 (by kernel_rfl)) (hdep 3 29 (by kernel_rfl)))),
   fun a w hB hfr hdep => Step.plain rfl (dAssign (R := Rw ((x1) * (y2))) rfl (hdep 4 30 (by kernel_rfl))), trivial⟩
 intro u4 hb4
 simp only [List.take, List.drop, FinAll, Act.put, lA, lS, lZ]
 rintro _ rfl v27_4 h27_4 _ rfl v29_4 h29_4 v30_4 h30_4 v9_4 h9_4
 have hO4 := (hO3).trans (hb4.mono (hO3).size)
 have m3_1__4 := block_below hb4 (lt_of_heap m3_1__3) m3_1__3
 have m4_1__4 := block_below hb4 (lt_of_heap m4_1__3) m4_1__3
 have m6_1__4 := block_below hb4 (lt_of_heap m6_1__3) m6_1__3
 refine hK4 _ _ ?_
 clear hK4 K4
 refine wp_seq_k fun K5 hK5 => ?_
 refine wp_plain_inv 6 (specs [Is (.pointer (some ⟨g3_1, 1, none⟩)), Rw (y1), Is (.pointer (some ⟨g4_1, 0, none⟩)), Rw (x2), Rw ((y1) * (x2)), Rw ((y1) * (x2))]) (specs_stb ⟨Is.stb _, Rw.stb _, Is.stb _, Rw.stb _, Rw.stb _, Rw.stb _, trivial⟩) (by kernel_rfl) ?_ ?_
 ·refine ⟨fun a w hB hfr hdep => Step.plain rfl (dFa68 g3_1 1 (by decide) rfl (hfr 3 (by kernel_rfl))),
   fun a w hB hfr hdep => Step.plain rfl (dLoadF1 hB (Rw.stb _ _ _ _ hb4 (Rw.stb _ _ _ _ hb3 (Rw.stb _ _ _ _ hb2 (Rw.stb _ _ _ _ hb1 hx1)))) (Rw.stb _ _ _ _ hb4 (Rw.stb _ _ _ _ hb3 (Rw.stb _ _ _ _ hb2 (Rw.stb _ _ _ _ hb1 hy1)))) (Rw.stb _ _ _ _ hb4 (Rw.stb _ _ _ _ hb3 (Rw.stb _ _ _ _ hb2 (Rw.stb _ _ _ _ hb1 hz1)))) (block_below hB (lt_of_heap m3_1__4) m3_1__4) rfl (hdep 0 31 (by kernel_rfl))),
   fun a w hB hfr hdep => Step.plain rfl (dFa68 g4_1 0 (by decide) rfl (hfr 4 (by kernel_rfl))),
   fun a w hB hfr hdep => Step.plain rfl (dLoadF0 hB (Rw.stb _ _ _ _ hb4 (Rw.stb _ _ _ _ hb3 (Rw.stb _ _ _ _ hb2 (Rw.stb _ _ _ _ hb1 hx2)))) (Rw.stb _ _ _ _ hb4 (Rw.stb _ _ _ _ hb3 (Rw.stb _ _ _ _ hb2 (Rw.stb _ _ _ _ hb1 hy2)))) (Rw.stb _ _ _ _ hb4 (Rw.stb _ _ _ _ hb3 (Rw.stb _ _ _ _ hb2 (Rw.stb _ _ _ _ hb1 hz2)))) (block_below hB (lt_of_heap m4_1__4) m4_1__4) rfl (hdep 2 33 (by kernel_rfl))),
   fun a w hB hfr hdep => Step.plain rfl (Does.call 52 #[(a.eval (.tmp 32)), (a.eval (.tmp 34))] (by kernel_rfl) (rMul w (hdep 1 32 (by kernel_rfl)) (hdep 3 34 (by kernel_rfl)))),
   fun a w hB hfr hdep => Step.plain rfl (dAssign (R := Rw ((y1) * (x2))) rfl (hdep 4 35 (by kernel_rfl))), trivial⟩
 intro u5 hb5
 simp only [List.take, List.drop, FinAll, Act.put, lA, lS, lZ]
 rintro _ rfl v32_5 h32_5 _ rfl v34_5 h34_5 v35_5 h35_5 v10_5 h10_5
 have hO5 := (hO4).trans (hb5.mono (hO4).size)
 have m3_1__5 := block_below hb5 (lt_of_heap m3_1__4) m3_1__4
 have m4_1__5 := block_below hb5 (lt_of_heap m4_1__4) m4_1__4
 have m6_1__5 := block_below hb5 (lt_of_heap m6_1__4) m6_1__4
 refine hK5 _ _ ?_
 clear hK5 K5
 refine wp_seq_k fun K6 hK6 => ?_
 refine wp_plain_inv 6 (specs [Is (.pointer (some ⟨g3_1, 1, none⟩)), Rw (y1), Is (.pointer (some ⟨g4_1, 1, none⟩)), Rw (y2), Rw ((y1) * (y2)), Rw ((y1) * (y2))]) (specs_stb ⟨Is.stb _, Rw.stb _, Is.stb _, Rw.stb _, Rw.stb _, Rw.stb _, trivial⟩) (by kernel_rfl) ?_ ?_
 ·refine ⟨fun a w hB hfr hdep => Step.plain rfl (dFa68 g3_1 1 (by decide) rfl (hfr 3 (by kernel_rfl))),
   fun a w hB hfr hdep => Step.plain rfl (dLoadF1 hB (Rw.stb _ _ _ _ hb5 (Rw.stb _ _ _ _ hb4 (Rw.stb _ _ _ _ hb3 (Rw.stb _ _ _ _ hb2 (Rw.stb _ _ _ _ hb1 hx1))))) (Rw.stb _ _ _ _ hb5 (Rw.stb _ _ _ _ hb4 (Rw.stb _ _ _ _ hb3 (Rw.stb _ _ _ _ hb2 (Rw.stb _ _ _ _ hb1 hy1))))) (Rw.stb _ _ _ _ hb5 (Rw.stb _ _ _ _ hb4 (Rw.stb _ _ _ _ hb3 (Rw.stb _ _ _ _ hb2 (Rw.stb _ _ _ _ hb1 hz1))))) (block_below hB (lt_of_heap m3_1__5) m3_1__5) rfl (hdep 0 36 (by kernel_rfl))),
   fun a w hB hfr hdep => Step.plain rfl (dFa68 g4_1 1 (by decide) rfl (hfr 4 (by kernel_rfl))),
   fun a w hB hfr hdep => Step.plain rfl (dLoadF1 hB (Rw.stb _ _ _ _ hb5 (Rw.stb _ _ _ _ hb4 (Rw.stb _ _ _ _ hb3 (Rw.stb _ _ _ _ hb2 (Rw.stb _ _ _ _ hb1 hx2))))) (Rw.stb _ _ _ _ hb5 (Rw.stb _ _ _ _ hb4 (Rw.stb _ _ _ _ hb3 (Rw.stb _ _ _ _ hb2 (Rw.stb _ _ _ _ hb1 hy2))))) (Rw.stb _ _ _ _ hb5 (Rw.stb _ _ _ _ hb4 (Rw.stb _ _ _ _ hb3 (Rw.stb _ _ _ _ hb2 (Rw.stb _ _ _ _ hb1 hz2))))) (block_below hB (lt_of_heap m4_1__5) m4_1__5) rfl (hdep 2 38 (by kernel_rfl))),
   fun a w hB hfr hdep => Step.plain rfl (Does.call 52 #[(a.eval (.tmp 37)), (a.eval (.tmp 39))] (by kernel_rfl) (rMul w (hdep 1 37 (by kernel_rfl)) (hdep 3 39 (by kernel_rfl)))),
   fun a w hB hfr hdep => Step.plain rfl (dAssign (R := Rw ((y1) * (y2))) rfl (hdep 4 40 (by kernel_rfl))), trivial⟩
 intro u6 hb6
 simp only [List.take, List.drop, FinAll, Act.put, lA, lS, lZ]
 rintro _ rfl v37_6 h37_6 _ rfl v39_6 h39_6 v40_6 h40_6 v11_6 h11_6
 have hO6 := (hO5).trans (hb6.mono (hO5).size)
 have m3_1__6 := block_below hb6 (lt_of_heap m3_1__5) m3_1__5
 have m4_1__6 := block_below hb6 (lt_of_heap m4_1__5) m4_1__5
 have m6_1__6 := block_below hb6 (lt_of_heap m6_1__5) m6_1__5
 refine hK6 _ _ ?_
 clear hK6 K6
 refine wp_seq_k fun K7 hK7 => ?_
 refine wp_plain_inv 6 (specs [Is (.pointer (some ⟨g3_1, 0, none⟩)), Rw (x1), Is (.pointer (some ⟨g4_1, 0, none⟩)), Rw (x2), Rw ((x1) * (x2)), Rw ((x1) * (x2))]) (specs_stb ⟨Is.stb _, Rw.stb _, Is.stb _, Rw.stb _, Rw.stb _, Rw.stb _, trivial⟩) (by kernel_rfl) ?_ ?_
 ·refine ⟨fun a w hB hfr hdep => Step.plain rfl (dFa68 g3_1 0 (by decide) rfl (hfr 3 (by kernel_rfl))),
   fun a w hB hfr hdep => Step.plain rfl (dLoadF0 hB (Rw.stb _ _ _ _ hb6 (Rw.stb _ _ _ _ hb5 (Rw.stb _ _ _ _ hb4 (Rw.stb _ _ _ _ hb3 (Rw.stb _ _ _ _ hb2 (Rw.stb _ _ _ _ hb1 hx1)))))) (Rw.stb _ _ _ _ hb6 (Rw.stb _ _ _ _ hb5 (Rw.stb _ _ _ _ hb4 (Rw.stb _ _ _ _ hb3 (Rw.stb _ _ _ _ hb2 (Rw.stb _ _ _ _ hb1 hy1)))))) (Rw.stb _ _ _ _ hb6 (Rw.stb _ _ _ _ hb5 (Rw.stb _ _ _ _ hb4 (Rw.stb _ _ _ _ hb3 (Rw.stb _ _ _ _ hb2 (Rw.stb _ _ _ _ hb1 hz1)))))) (block_below hB (lt_of_heap m3_1__6) m3_1__6) rfl (hdep 0 41 (by kernel_rfl))),
   fun a w hB hfr hdep => Step.plain rfl (dFa68 g4_1 0 (by decide) rfl (hfr 4 (by kernel_rfl))),
   fun a w hB hfr hdep => Step.plain rfl (dLoadF0 hB (Rw.stb _ _ _ _ hb6 (Rw.stb _ _ _ _ hb5 (Rw.stb _ _ _ _ hb4 (Rw.stb _ _ _ _ hb3 (Rw.stb _ _ _ _ hb2 (Rw.stb _ _ _ _ hb1 hx2)))))) (Rw.stb _ _ _ _ hb6 (Rw.stb _ _ _ _ hb5 (Rw.stb _ _ _ _ hb4 (Rw.stb _ _ _ _ hb3 (Rw.stb _ _ _ _ hb2 (Rw.stb _ _ _ _ hb1 hy2)))))) (Rw.stb _ _ _ _ hb6 (Rw.stb _ _ _ _ hb5 (Rw.stb _ _ _ _ hb4 (Rw.stb _ _ _ _ hb3 (Rw.stb _ _ _ _ hb2 (Rw.stb _ _ _ _ hb1 hz2)))))) (block_below hB (lt_of_heap m4_1__6) m4_1__6) rfl (hdep 2 43 (by kernel_rfl))),
   fun a w hB hfr hdep => Step.plain rfl (Does.call 52 #[(a.eval (.tmp 42)), (a.eval (.tmp 44))] (by kernel_rfl) (rMul w (hdep 1 42 (by kernel_rfl)) (hdep 3 44 (by kernel_rfl)))),
   fun a w hB hfr hdep => Step.plain rfl (dAssign (R := Rw ((x1) * (x2))) rfl (hdep 4 45 (by kernel_rfl))), trivial⟩
 intro u7 hb7
 simp only [List.take, List.drop, FinAll, Act.put, lA, lS, lZ]
 rintro _ rfl v42_7 h42_7 _ rfl v44_7 h44_7 v45_7 h45_7 v12_7 h12_7
 have hO7 := (hO6).trans (hb7.mono (hO6).size)
 have m3_1__7 := block_below hb7 (lt_of_heap m3_1__6) m3_1__6
 have m4_1__7 := block_below hb7 (lt_of_heap m4_1__6) m4_1__6
 have m6_1__7 := block_below hb7 (lt_of_heap m6_1__6) m6_1__6
 refine hK7 _ _ ?_
 clear hK7 K7
 refine wp_seq_k fun K8 hK8 => ?_
 refine wp_plain_inv 6 (specs [Rw (dd), Rw ((x1) * (x2)), Rw ((y1) * (y2)), Rw (((x1) * (x2)) * ((y1) * (y2))), Rw ((dd) * (((x1) * (x2)) * ((y1) * (y2)))), Rw ((dd) * (((x1) * (x2)) * ((y1) * (y2))))]) (specs_stb ⟨Rw.stb _, Rw.stb _, Rw.stb _, Rw.stb _, Rw.stb _, Rw.stb _, trivial⟩) (by kernel_rfl) ?_ ?_
 ·refine ⟨fun a w hB hfr hdep => Step.plain rfl (dMove (R := Rw (dd)) rfl (use (hfr 2 (by kernel_rfl)) ((Rw.stb _) _ _ _ hB ((Rw.stb _) _ _ _ hb7 ((Rw.stb _) _ _ _ hb6 ((Rw.stb _) _ _ _ hb5 ((Rw.stb _) _ _ _ hb4 ((Rw.stb _) _ _ _ hb3 ((Rw.stb _) _ _ _ hb2 ((Rw.stb _) _ _ _ hb1 hd)))))))))),
   fun a w hB hfr hdep => Step.plain rfl (dMove (R := Rw ((x1) * (x2))) rfl (use (hfr 12 (by kernel_rfl)) ((Rw.stb _) _ _ _ hB h12_7))),
   fun a w hB hfr hdep => Step.plain rfl (dMove (R := Rw ((y1) * (y2))) rfl (use (hfr 11 (by kernel_rfl)) ((Rw.stb _) _ _ _ hB ((Rw.stb _) _ _ _ hb7 h11_6)))),
   fun a w hB hfr hdep => Step.plain rfl (Does.call 52 #[(a.eval (.tmp 47)), (a.eval (.tmp 48))] (by kernel_rfl) (rMul w (hdep 1 47 (by kernel_rfl)) (hdep 2 48 (by kernel_rfl)))),
   fun a w hB hfr hdep => Step.plain rfl (Does.call 52 #[(a.eval (.tmp 46)), (a.eval (.tmp 49))] (by kernel_rfl) (rMul w (hdep 0 46 (by kernel_rfl)) (hdep 3 49 (by kernel_rfl)))),
   fun a w hB hfr hdep => Step.plain rfl (dAssign (R := Rw ((dd) * (((x1) * (x2)) * ((y1) * (y2))))) rfl (hdep 4 50 (by kernel_rfl))), trivial⟩
 intro u8 hb8
 simp only [List.take, List.drop, FinAll, Act.put, lA, lS, lZ]
 rintro v46_8 h46_8 v47_8 h47_8 v48_8 h48_8 v49_8 h49_8 v50_8 h50_8 v13_8 h13_8
 have hO8 := (hO7).trans (hb8.mono (hO7).size)
 have m3_1__8 := block_below hb8 (lt_of_heap m3_1__7) m3_1__7
 have m4_1__8 := block_below hb8 (lt_of_heap m4_1__7) m4_1__7
 have m6_1__8 := block_below hb8 (lt_of_heap m6_1__7) m6_1__7
 refine hK8 _ _ ?_
 clear hK8 K8
 refine wp_seq_k fun K9 hK9 => ?_
 refine wp_plain_inv 4 (specs [Rw (((z1) * (z2)) * ((z1) * (z2))), Rw ((dd) * (((x1) * (x2)) * ((y1) * (y2)))), Rw ((((z1) * (z2)) * ((z1) * (z2))) + ((dd) * (((x1) * (x2)) * ((y1) * (y2))))), Rw ((((z1) * (z2)) * ((z1) * (z2))) + ((dd) * (((x1) * (x2)) * ((y1) * (y2)))))]) (specs_stb ⟨Rw.stb _, Rw.stb _, Rw.stb _, Rw.stb _, trivial⟩) (by kernel_rfl) ?_ ?_
 ·refine ⟨fun a w hB hfr hdep => Step.plain rfl (dMove (R := Rw (((z1) * (z2)) * ((z1) * (z2)))) rfl (use (hfr 8 (by kernel_rfl)) ((Rw.stb _) _ _ _ hB ((Rw.stb _) _ _ _ hb8 ((Rw.stb _) _ _ _ hb7 ((Rw.stb _) _ _ _ hb6 ((Rw.stb _) _ _ _ hb5 ((Rw.stb _) _ _ _ hb4 h8_3)))))))),
   fun a w hB hfr hdep => Step.plain rfl (dMove (R := Rw ((dd) * (((x1) * (x2)) * ((y1) * (y2))))) rfl (use (hfr 13 (by kernel_rfl)) ((Rw.stb _) _ _ _ hB h13_8))),
   fun a w hB hfr hdep => Step.plain rfl (Does.call 64 #[(a.eval (.tmp 51)), (a.eval (.tmp 52))] (by kernel_rfl) (rAdd w (hdep 0 51 (by kernel_rfl)) (hdep 1 52 (by kernel_rfl)))),
   fun a w hB hfr hdep => Step.plain rfl (dAssign (R := Rw ((((z1) * (z2)) * ((z1) * (z2))) + ((dd) * (((x1) * (x2)) * ((y1) * (y2)))))) rfl (hdep 2 53 (by kernel_rfl))), trivial⟩
 intro u9 hb9
 simp only [List.take, List.drop, FinAll, Act.put, lA, lS, lZ]
 rintro v51_9 h51_9 v52_9 h52_9 v53_9 h53_9 v14_9 h14_9
 have hO9 := (hO8).trans (hb9.mono (hO8).size)
 have m3_1__9 := block_below hb9 (lt_of_heap m3_1__8) m3_1__8
 have m4_1__9 := block_below hb9 (lt_of_heap m4_1__8) m4_1__8
 have m6_1__9 := block_below hb9 (lt_of_heap m6_1__8) m6_1__8
 refine hK9 _ _ ?_
 clear hK9 K9
 refine wp_seq_k fun K10 hK10 => ?_
 refine wp_plain_inv 4 (specs [Rw (((z1) * (z2)) * ((z1) * (z2))), Rw ((dd) * (((x1) * (x2)) * ((y1) * (y2)))), Rw ((((z1) * (z2)) * ((z1) * (z2))) - ((dd) * (((x1) * (x2)) * ((y1) * (y2))))), Rw ((((z1) * (z2)) * ((z1) * (z2))) - ((dd) * (((x1) * (x2)) * ((y1) * (y2)))))]) (specs_stb ⟨Rw.stb _, Rw.stb _, Rw.stb _, Rw.stb _, trivial⟩) (by kernel_rfl) ?_ ?_
 ·refine ⟨fun a w hB hfr hdep => Step.plain rfl (dMove (R := Rw (((z1) * (z2)) * ((z1) * (z2)))) rfl (use (hfr 8 (by kernel_rfl)) ((Rw.stb _) _ _ _ hB ((Rw.stb _) _ _ _ hb9 ((Rw.stb _) _ _ _ hb8 ((Rw.stb _) _ _ _ hb7 ((Rw.stb _) _ _ _ hb6 ((Rw.stb _) _ _ _ hb5 ((Rw.stb _) _ _ _ hb4 h8_3))))))))),
   fun a w hB hfr hdep => Step.plain rfl (dMove (R := Rw ((dd) * (((x1) * (x2)) * ((y1) * (y2))))) rfl (use (hfr 13 (by kernel_rfl)) ((Rw.stb _) _ _ _ hB ((Rw.stb _) _ _ _ hb9 h13_8)))),
   fun a w hB hfr hdep => Step.plain rfl (Does.call 27 #[(a.eval (.tmp 54)), (a.eval (.tmp 55))] (by kernel_rfl) (rSub w (hdep 0 54 (by kernel_rfl)) (hdep 1 55 (by kernel_rfl)))),
   fun a w hB hfr hdep => Step.plain rfl (dAssign (R := Rw ((((z1) * (z2)) * ((z1) * (z2))) - ((dd) * (((x1) * (x2)) * ((y1) * (y2)))))) rfl (hdep 2 56 (by kernel_rfl))), trivial⟩
 intro u10 hb10
 simp only [List.take, List.drop, FinAll, Act.put, lA, lS, lZ]
 rintro v54_10 h54_10 v55_10 h55_10 v56_10 h56_10 v15_10 h15_10
 have hO10 := (hO9).trans (hb10.mono (hO9).size)
 have m3_1__10 := block_below hb10 (lt_of_heap m3_1__9) m3_1__9
 have m4_1__10 := block_below hb10 (lt_of_heap m4_1__9) m4_1__9
 have m6_1__10 := block_below hb10 (lt_of_heap m6_1__9) m6_1__9
 refine hK10 _ _ ?_
 clear hK10 K10
 refine wp_seq_k fun K11 hK11 => ?_
 refine wp_plain_inv 8 (specs [Rw ((z1) * (z2)), Rw ((((z1) * (z2)) * ((z1) * (z2))) - ((dd) * (((x1) * (x2)) * ((y1) * (y2))))), Rw ((x1) * (y2)), Rw ((y1) * (x2)), Rw (((x1) * (y2)) + ((y1) * (x2))), Rw (((((z1) * (z2)) * ((z1) * (z2))) - ((dd) * (((x1) * (x2)) * ((y1) * (y2))))) * (((x1) * (y2)) + ((y1) * (x2)))), Rw (((z1) * (z2)) * (((((z1) * (z2)) * ((z1) * (z2))) - ((dd) * (((x1) * (x2)) * ((y1) * (y2))))) * (((x1) * (y2)) + ((y1) * (x2))))), Rw (((z1) * (z2)) * (((((z1) * (z2)) * ((z1) * (z2))) - ((dd) * (((x1) * (x2)) * ((y1) * (y2))))) * (((x1) * (y2)) + ((y1) * (x2)))))]) (specs_stb ⟨Rw.stb _, Rw.stb _, Rw.stb _, Rw.stb _, Rw.stb _, Rw.stb _, Rw.stb _, Rw.stb _, trivial⟩) (by kernel_rfl) ?_ ?_
 ·refine ⟨fun a w hB hfr hdep => Step.plain rfl (dMove (R := Rw ((z1) * (z2))) rfl (use (hfr 7 (by kernel_rfl)) ((Rw.stb _) _ _ _ hB ((Rw.stb _) _ _ _ hb10 ((Rw.stb _) _ _ _ hb9 ((Rw.stb _) _ _ _ hb8 ((Rw.stb _) _ _ _ hb7 ((Rw.stb _) _ _ _ hb6 ((Rw.stb _) _ _ _ hb5 ((Rw.stb _) _ _ _ hb4 ((Rw.stb _) _ _ _ hb3 h7_2))))))))))),
   fun a w hB hfr hdep => Step.plain rfl (dMove (R := Rw ((((z1) * (z2)) * ((z1) * (z2))) - ((dd) * (((x1) * (x2)) * ((y1) * (y2)))))) rfl (use (hfr 15 (by kernel_rfl)) ((Rw.stb _) _ _ _ hB h15_10))),
   fun a w hB hfr hdep => Step.plain rfl (dMove (R := Rw ((x1) * (y2))) rfl (use (hfr 9 (by kernel_rfl)) ((Rw.stb _) _ _ _ hB ((Rw.stb _) _ _ _ hb10 ((Rw.stb _) _ _ _ hb9 ((Rw.stb _) _ _ _ hb8 ((Rw.stb _) _ _ _ hb7 ((Rw.stb _) _ _ _ hb6 ((Rw.stb _) _ _ _ hb5 h9_4))))))))),
   fun a w hB hfr hdep => Step.plain rfl (dMove (R := Rw ((y1) * (x2))) rfl (use (hfr 10 (by kernel_rfl)) ((Rw.stb _) _ _ _ hB ((Rw.stb _) _ _ _ hb10 ((Rw.stb _) _ _ _ hb9 ((Rw.stb _) _ _ _ hb8 ((Rw.stb _) _ _ _ hb7 ((Rw.stb _) _ _ _ hb6 h10_5)))))))),
   fun a w hB hfr hdep => Step.plain rfl (Does.call 64 #[(a.eval (.tmp 59)), (a.eval (.tmp 60))] (by kernel_rfl) (rAdd w (hdep 2 59 (by kernel_rfl)) (hdep 3 60 (by kernel_rfl)))),
   fun a w hB hfr hdep => Step.plain rfl (Does.call 52 #[(a.eval (.tmp 58)), (a.eval (.tmp 61))] (by kernel_rfl) (rMul w (hdep 1 58 (by kernel_rfl)) (hdep 4 61 (by kernel_rfl)))),
   fun a w hB hfr hdep => Step.plain rfl (Does.call 52 #[(a.eval (.tmp 57)), (a.eval (.tmp 62))] (by kernel_rfl) (rMul w (hdep 0 57 (by kernel_rfl)) (hdep 5 62 (by kernel_rfl)))),
   fun a w hB hfr hdep => Step.plain rfl (dAssign (R := Rw (((z1) * (z2)) * (((((z1) * (z2)) * ((z1) * (z2))) - ((dd) * (((x1) * (x2)) * ((y1) * (y2))))) * (((x1) * (y2)) + ((y1) * (x2)))))) rfl (hdep 6 63 (by kernel_rfl))), trivial⟩
 intro u11 hb11
 simp only [List.take, List.drop, FinAll, Act.put, lA, lS, lZ]
 rintro v57_11 h57_11 v58_11 h58_11 v59_11 h59_11 v60_11 h60_11 v61_11 h61_11 v62_11 h62_11 v63_11 h63_11 v16_11 h16_11
 have hO11 := (hO10).trans (hb11.mono (hO10).size)
 have m3_1__11 := block_below hb11 (lt_of_heap m3_1__10) m3_1__10
 have m4_1__11 := block_below hb11 (lt_of_heap m4_1__10) m4_1__10
 have m6_1__11 := block_below hb11 (lt_of_heap m6_1__10) m6_1__10
 refine hK11 _ _ ?_
 clear hK11 K11
 refine wp_seq_k fun K12 hK12 => ?_
 refine wp_plain_inv 8 (specs [Rw ((z1) * (z2)), Rw ((((z1) * (z2)) * ((z1) * (z2))) + ((dd) * (((x1) * (x2)) * ((y1) * (y2))))), Rw ((y1) * (y2)), Rw ((x1) * (x2)), Rw (((y1) * (y2)) + ((x1) * (x2))), Rw (((((z1) * (z2)) * ((z1) * (z2))) + ((dd) * (((x1) * (x2)) * ((y1) * (y2))))) * (((y1) * (y2)) + ((x1) * (x2)))), Rw (((z1) * (z2)) * (((((z1) * (z2)) * ((z1) * (z2))) + ((dd) * (((x1) * (x2)) * ((y1) * (y2))))) * (((y1) * (y2)) + ((x1) * (x2))))), Rw (((z1) * (z2)) * (((((z1) * (z2)) * ((z1) * (z2))) + ((dd) * (((x1) * (x2)) * ((y1) * (y2))))) * (((y1) * (y2)) + ((x1) * (x2)))))]) (specs_stb ⟨Rw.stb _, Rw.stb _, Rw.stb _, Rw.stb _, Rw.stb _, Rw.stb _, Rw.stb _, Rw.stb _, trivial⟩) (by kernel_rfl) ?_ ?_
 ·refine ⟨fun a w hB hfr hdep => Step.plain rfl (dMove (R := Rw ((z1) * (z2))) rfl (use (hfr 7 (by kernel_rfl)) ((Rw.stb _) _ _ _ hB ((Rw.stb _) _ _ _ hb11 ((Rw.stb _) _ _ _ hb10 ((Rw.stb _) _ _ _ hb9 ((Rw.stb _) _ _ _ hb8 ((Rw.stb _) _ _ _ hb7 ((Rw.stb _) _ _ _ hb6 ((Rw.stb _) _ _ _ hb5 ((Rw.stb _) _ _ _ hb4 ((Rw.stb _) _ _ _ hb3 h7_2)))))))))))),
   fun a w hB hfr hdep => Step.plain rfl (dMove (R := Rw ((((z1) * (z2)) * ((z1) * (z2))) + ((dd) * (((x1) * (x2)) * ((y1) * (y2)))))) rfl (use (hfr 14 (by kernel_rfl)) ((Rw.stb _) _ _ _ hB ((Rw.stb _) _ _ _ hb11 ((Rw.stb _) _ _ _ hb10 h14_9))))),
   fun a w hB hfr hdep => Step.plain rfl (dMove (R := Rw ((y1) * (y2))) rfl (use (hfr 11 (by kernel_rfl)) ((Rw.stb _) _ _ _ hB ((Rw.stb _) _ _ _ hb11 ((Rw.stb _) _ _ _ hb10 ((Rw.stb _) _ _ _ hb9 ((Rw.stb _) _ _ _ hb8 ((Rw.stb _) _ _ _ hb7 h11_6)))))))),
   fun a w hB hfr hdep => Step.plain rfl (dMove (R := Rw ((x1) * (x2))) rfl (use (hfr 12 (by kernel_rfl)) ((Rw.stb _) _ _ _ hB ((Rw.stb _) _ _ _ hb11 ((Rw.stb _) _ _ _ hb10 ((Rw.stb _) _ _ _ hb9 ((Rw.stb _) _ _ _ hb8 h12_7))))))),
   fun a w hB hfr hdep => Step.plain rfl (Does.call 64 #[(a.eval (.tmp 66)), (a.eval (.tmp 67))] (by kernel_rfl) (rAdd w (hdep 2 66 (by kernel_rfl)) (hdep 3 67 (by kernel_rfl)))),
   fun a w hB hfr hdep => Step.plain rfl (Does.call 52 #[(a.eval (.tmp 65)), (a.eval (.tmp 68))] (by kernel_rfl) (rMul w (hdep 1 65 (by kernel_rfl)) (hdep 4 68 (by kernel_rfl)))),
   fun a w hB hfr hdep => Step.plain rfl (Does.call 52 #[(a.eval (.tmp 64)), (a.eval (.tmp 69))] (by kernel_rfl) (rMul w (hdep 0 64 (by kernel_rfl)) (hdep 5 69 (by kernel_rfl)))),
   fun a w hB hfr hdep => Step.plain rfl (dAssign (R := Rw (((z1) * (z2)) * (((((z1) * (z2)) * ((z1) * (z2))) + ((dd) * (((x1) * (x2)) * ((y1) * (y2))))) * (((y1) * (y2)) + ((x1) * (x2)))))) rfl (hdep 6 70 (by kernel_rfl))), trivial⟩
 intro u12 hb12
 simp only [List.take, List.drop, FinAll, Act.put, lA, lS, lZ]
 rintro v64_12 h64_12 v65_12 h65_12 v66_12 h66_12 v67_12 h67_12 v68_12 h68_12 v69_12 h69_12 v70_12 h70_12 v17_12 h17_12
 have hO12 := (hO11).trans (hb12.mono (hO11).size)
 have m3_1__12 := block_below hb12 (lt_of_heap m3_1__11) m3_1__11
 have m4_1__12 := block_below hb12 (lt_of_heap m4_1__11) m4_1__11
 have m6_1__12 := block_below hb12 (lt_of_heap m6_1__11) m6_1__11
 refine hK12 _ _ ?_
 clear hK12 K12
 refine wp_seq_k fun K13 hK13 => ?_
 refine wp_plain_inv 6 (specs [Rw (((z1) * (z2)) * (((((z1) * (z2)) * ((z1) * (z2))) - ((dd) * (((x1) * (x2)) * ((y1) * (y2))))) * (((x1) * (y2)) + ((y1) * (x2))))), Rw (((z1) * (z2)) * (((((z1) * (z2)) * ((z1) * (z2))) + ((dd) * (((x1) * (x2)) * ((y1) * (y2))))) * (((y1) * (y2)) + ((x1) * (x2))))), Rw ((((z1) * (z2)) * ((z1) * (z2))) + ((dd) * (((x1) * (x2)) * ((y1) * (y2))))), Rw ((((z1) * (z2)) * ((z1) * (z2))) - ((dd) * (((x1) * (x2)) * ((y1) * (y2))))), Rw (((((z1) * (z2)) * ((z1) * (z2))) + ((dd) * (((x1) * (x2)) * ((y1) * (y2))))) * ((((z1) * (z2)) * ((z1) * (z2))) - ((dd) * (((x1) * (x2)) * ((y1) * (y2)))))), FrV (((z1) * (z2)) * (((((z1) * (z2)) * ((z1) * (z2))) - ((dd) * (((x1) * (x2)) * ((y1) * (y2))))) * (((x1) * (y2)) + ((y1) * (x2))))) (((z1) * (z2)) * (((((z1) * (z2)) * ((z1) * (z2))) + ((dd) * (((x1) * (x2)) * ((y1) * (y2))))) * (((y1) * (y2)) + ((x1) * (x2))))) (((((z1) * (z2)) * ((z1) * (z2))) + ((dd) * (((x1) * (x2)) * ((y1) * (y2))))) * ((((z1) * (z2)) * ((z1) * (z2))) - ((dd) * (((x1) * (x2)) * ((y1) * (y2))))))]) (specs_stb ⟨Rw.stb _, Rw.stb _, Rw.stb _, Rw.stb _, Rw.stb _, FrV.stb _ _ _, trivial⟩) (by kernel_rfl) ?_ ?_
 ·refine ⟨fun a w hB hfr hdep => Step.plain rfl (dMove (R := Rw (((z1) * (z2)) * (((((z1) * (z2)) * ((z1) * (z2))) - ((dd) * (((x1) * (x2)) * ((y1) * (y2))))) * (((x1) * (y2)) + ((y1) * (x2)))))) rfl (use (hfr 16 (by kernel_rfl)) ((Rw.stb _) _ _ _ hB ((Rw.stb _) _ _ _ hb12 h16_11)))),
   fun a w hB hfr hdep => Step.plain rfl (dMove (R := Rw (((z1) * (z2)) * (((((z1) * (z2)) * ((z1) * (z2))) + ((dd) * (((x1) * (x2)) * ((y1) * (y2))))) * (((y1) * (y2)) + ((x1) * (x2)))))) rfl (use (hfr 17 (by kernel_rfl)) ((Rw.stb _) _ _ _ hB h17_12))),
   fun a w hB hfr hdep => Step.plain rfl (dMove (R := Rw ((((z1) * (z2)) * ((z1) * (z2))) + ((dd) * (((x1) * (x2)) * ((y1) * (y2)))))) rfl (use (hfr 14 (by kernel_rfl)) ((Rw.stb _) _ _ _ hB ((Rw.stb _) _ _ _ hb12 ((Rw.stb _) _ _ _ hb11 ((Rw.stb _) _ _ _ hb10 h14_9)))))),
   fun a w hB hfr hdep => Step.plain rfl (dMove (R := Rw ((((z1) * (z2)) * ((z1) * (z2))) - ((dd) * (((x1) * (x2)) * ((y1) * (y2)))))) rfl (use (hfr 15 (by kernel_rfl)) ((Rw.stb _) _ _ _ hB ((Rw.stb _) _ _ _ hb12 ((Rw.stb _) _ _ _ hb11 h15_10))))),
   fun a w hB hfr hdep => Step.plain rfl (Does.call 52 #[(a.eval (.tmp 73)), (a.eval (.tmp 74))] (by kernel_rfl) (rMul w (hdep 2 73 (by kernel_rfl)) (hdep 3 74 (by kernel_rfl)))),
   fun a w hB hfr hdep => Step.plain rfl (dBuild68 rfl (hdep 0 71 (by kernel_rfl)) (hdep 1 72 (by kernel_rfl)) (hdep 4 75 (by kernel_rfl))), trivial⟩
 intro u13 hb13
 simp only [List.take, List.drop, FinAll, Act.put, lA, lS, lZ]
 rintro v71_13 h71_13 v72_13 h72_13 v73_13 h73_13 v74_13 h74_13 v75_13 h75_13 _ ⟨p76_13, q76_13, r76_13, rfl, x76_13, y76_13, z76_13⟩
 have om6_1__12 := block_below hb13 (lt_of_heap m6_1__12) m6_1__12
 refine wpList_store_row rfl 76 (.tmp 6) (.tmp 76) rfl _ (#[p76_13, q76_13, r76_13]) rfl rfl 76 _ om6_1__12 infoFr rfl (fr_one x76_13 y76_13 z76_13) ?_
 have xx := Rw.setRow x76_13 om6_1__12 nz68 (#[p76_13, q76_13, r76_13])
 have yy := Rw.setRow y76_13 om6_1__12 nz68 (#[p76_13, q76_13, r76_13])
 have zz := Rw.setRow z76_13 om6_1__12 nz68 (#[p76_13, q76_13, r76_13])
 have n6_13 := setRow_heap _ _ _ (#[p76_13, q76_13, r76_13]) _ _ om6_1__12
 have hO13 := setRow_below (hO12.trans (hb13.mono (hO12).size)) lwm6_1 (#[p76_13, q76_13, r76_13])
 refine hK13 _ _ ?_
 clear hK13 K13
 refine wp_ret ?_
 refine bodyPost_ret (v := .agg (#[p76_13, q76_13, r76_13])) ?_ rfl ⟨_, rfl, hO13, ⟨_, _, _, rfl, xx, yy, zz⟩⟩
 exact results_cell_row Tryz.results50 _ _ _ 76 _ (0, 0) _ rfl n6_13 Tryz.underlying76 rfl (by first | exact info26 | exact info29 | exact info35 | exact infoFr | (rw [(Pt4.cells (by assumption)).1]; exact info29) | (rw [cellsP_size (by assumption)]; exact info29))
def FrP (P : Pt) (v : Value) (w : World) : Prop := ∃ X Y Z, Fr X Y Z P ∧ FrV X Y Z v w
theorem rAddFr {P Q : Pt} {v1 v2 v3 : Value} (w : World) (h1 : FrP P v1 w) (h2 : FrP Q v2 w) (hd : Rw dd v3 w) : Ret 50 #[v1, v2, v3] w (FrP (P.add Q)) := by
 obtain ⟨X1, Y1, Z1, f1, h1⟩ := h1
 obtain ⟨X2, Y2, Z2, f2, h2⟩ := h2
 have e := fr_add f1 f2 rfl rfl rfl rfl
 exact (rAddF w h1 h2 hd).mono fun e' w' ⟨v, h, hB, hf⟩ => ⟨v, h, hB, _, _, _, e, hf⟩
end Go.Proofs.YtabgihjffjlfiaaGreatDoor
set_option linter.unusedVariables false
namespace Go.Proofs.YtabgihjffjlfiaaGreatDoor
open Go.RowKit Go.Sort Go.BigFrame
set_option maxRecDepth 100000
set_option maxHeartbeats 2000000
def FrB (g : Nat) (P : Pt) (w : World) : Prop := ∃ p q r X Y Z, w.heap[g]? = some (.cells #[p, q, r] 76 (0, 0)) ∧ Rw X p w ∧ Rw Y q w ∧ Rw Z r w ∧ Fr X Y Z P
theorem FrB.below {g : Nat} {P : Pt} {w w' : World} (h : FrB g P w) (hb : Below w.heap.size w w') : FrB g P w' := by
 obtain ⟨p, q, r, X, Y, Z, h1, h2, h3, h4, h5⟩ := h
 exact ⟨p, q, r, X, Y, Z, block_below hb (lt_of_heap h1) h1, Rw.stb _ _ _ _ hb h2, Rw.stb _ _ _ _ hb h3, Rw.stb _ _ _ _ hb h4, h5⟩
theorem nzR {X Y Z : Fe} {p q r : Value} {w : World} (h1 : Rw X p w) (h2 : Rw Y q w) (h3 : Rw Z r w) : ∀ (i : Nat) (n : Int), (#[p, q, r] : Array Value)[i]? ≠ some (.int .i64 n) := by
 obtain ⟨a, c, rfl, _⟩ := h1
 obtain ⟨a2, c2, rfl, _⟩ := h2
 obtain ⟨a3, c3, rfl, _⟩ := h3
 intro i n h
 match i with
 | 0 => simp at h
 | 1 => simp at h
 | 2 => simp at h
 | i + 3 => simp at h
theorem Rw.past {x : Fe} {v : Value} {w : World} (h : Rw x v w) {g : Nat} {P : Pt} (hf : FrB g P w) (new : Array Value) : Rw x v (w.setRow g new) := by
 obtain ⟨p, q, r, X, Y, Z, h1, h2, h3, h4, h5⟩ := hf
 exact Rw.setRow h h1 (nzR h2 h3 h4) new
theorem FrB.past {g g' : Nat} {P Q : Pt} {w : World} (h : FrB g P w) (hf : FrB g' Q w) (hn : g ≠ g') (new : Array Value) : FrB g P (w.setRow g' new) := by
 obtain ⟨p, q, r, X, Y, Z, h1, h2, h3, h4, h5⟩ := h
 exact ⟨p, q, r, X, Y, Z, (setRow_other w g' g new hn).trans h1, h2.past hf new, h3.past hf new, h4.past hf new, h5⟩
theorem FrB.set {g : Nat} {P Q : Pt} {w : World} (h : FrB g P w) {X Y Z : Fe} {p q r : Value} (hx : Rw X p w) (hy : Rw Y q w) (hz : Rw Z r w) (hf : Fr X Y Z Q) : FrB g Q (w.setRow g #[p, q, r]) := by
 have h' := h
 obtain ⟨p0, q0, r0, X0, Y0, Z0, h1, h2, h3, h4, h5⟩ := h
 exact ⟨p, q, r, X, Y, Z, setRow_heap w g _ _ _ _ h1, hx.past h' _, hy.past h' _, hz.past h' _, hf⟩
structure MI (w : World) (v5 : Value) (g4 g7 g8 : Nat) (A B : Pt) (wr : World) : Prop where
 bel : Below w.heap.size w wr
 dd5 : Rw dd v5 wr
 b4 : wr.heap[g4]? = some (.cells #[.slice none 0 0, .slice none 0 0] 45 (0, 0))
 f7 : FrB g7 A wr
 f8 : FrB g8 B wr
theorem MI.below {w wr w' : World} {v5 : Value} {g4 g7 g8 : Nat} {A B : Pt} (h : MI w v5 g4 g7 g8 A B wr) (hb : Below wr.heap.size wr w') : MI w v5 g4 g7 g8 A B w' :=
 ⟨h.bel.trans (hb.mono h.bel.size), Rw.stb _ _ _ _ hb h.dd5, block_below hb (lt_of_heap h.b4) h.b4, h.f7.below hb, h.f8.below hb⟩
theorem MI.set7 {w wr : World} {v5 : Value} {g4 g7 g8 : Nat} {A B A' : Pt} (h : MI w v5 g4 g7 g8 A B wr) (n1 : w.heap.size ≤ g7) (n2 : g8 ≠ g7) (n3 : g4 ≠ g7) {X Y Z : Fe} {p q r : Value} (hx : Rw X p wr) (hy : Rw Y q wr) (hz : Rw Z r wr) (hf : Fr X Y Z A') : MI w v5 g4 g7 g8 A' B (wr.setRow g7 #[p, q, r]) :=
 ⟨setRow_below h.bel n1 _, h.dd5.past h.f7 _, (setRow_other wr g7 g4 _ n3).trans h.b4, h.f7.set hx hy hz hf, h.f8.past h.f7 n2 _⟩
theorem MI.set8 {w wr : World} {v5 : Value} {g4 g7 g8 : Nat} {A B B' : Pt} (h : MI w v5 g4 g7 g8 A B wr) (n1 : w.heap.size ≤ g8) (n2 : g7 ≠ g8) (n3 : g4 ≠ g8) {X Y Z : Fe} {p q r : Value} (hx : Rw X p wr) (hy : Rw Y q wr) (hz : Rw Z r wr) (hf : Fr X Y Z B') : MI w v5 g4 g7 g8 A B' (wr.setRow g8 #[p, q, r]) :=
 ⟨setRow_below h.bel n1 _, h.dd5.past h.f8 _, (setRow_other wr g8 g4 _ n3).trans h.b4, h.f7.past h.f8 n2 _, h.f8.set hx hy hz hf⟩
theorem nm_bit1 (P : Pt) (N n : Nat) (h : N / 2 ^ n % 2 = 1) : (P.nm (N % 2 ^ n)).add (P.nm (2 ^ n)) = P.nm (N % 2 ^ (n + 1)) := by
 rw [← Pt.nm_add, Nat.pow_succ, Nat.mod_mul, h, Nat.mul_one]
theorem nm_bit0 (P : Pt) (N n : Nat) (h : N / 2 ^ n % 2 = 0) : P.nm (N % 2 ^ n) = P.nm (N % 2 ^ (n + 1)) := by
 rw [Nat.pow_succ, Nat.mod_mul, h, Nat.mul_zero, Nat.add_zero]
theorem nm_dbl (P : Pt) (n : Nat) : (P.nm (2 ^ n)).add (P.nm (2 ^ n)) = P.nm (2 ^ (n + 1)) := by
 rw [← Pt.nm_add, Nat.pow_succ, Nat.mul_two]
theorem bit_at (N k j : Nat) (hj : j < 8) : N / 256 ^ k % 256 / 2 ^ j % 2 = N / 2 ^ (8 * k + j) % 2 := by
 rw [Nat.pow_add, Nat.pow_mul, show (2 : Nat) ^ 8 = 256 from rfl, ← Nat.div_div_eq_div_mul]
 generalize N / 256 ^ k = x
 rcases (by omega : j = 0 ∨ j = 1 ∨ j = 2 ∨ j = 3 ∨ j = 4 ∨ j = 5 ∨ j = 6 ∨ j = 7) with rfl | rfl | rfl | rfl | rfl | rfl | rfl | rfl <;> simp <;> omega
theorem rMulPt {P : Pt} {v1 v2 : Value} {l : List Nat} (w : World) (h1 : RPt P.x P.y v1 w) (hk : Bts l v2 w) (hd : Dig l) (hl : l.length ≤ 32) : Ret 21 #[v1, v2] w (RPt (P.nm (valD l)).x (P.nm (valD l)).y) := by
 obtain ⟨p1, q1, rfl, hx1, hy1⟩ := h1
 obtain ⟨ak, ck, rfl, hk1, hk2, hkv⟩ := hk
 unfold Ret
 have hO0 : Below w.heap.size w w := Below.refl _ _
 go_enter Tryz.func21, Tryz.ntmps21
 refine wp_seq_k fun K1 hK1 => ?_
 refine wp_plain_inv 2 (specs [Box w.heap.size (#[p1, q1]) 45, Box w.heap.size (#[.slice none 0 0, .slice none 0 0]) 45]) (specs_stb ⟨Box.stb _ _ _, Box.stb _ _ _, trivial⟩) (by kernel_rfl) ?_ ?_
 ·refine ⟨fun a w hB hfr hdep => Step.plain rfl (dBox35 hB.size rfl (hfr 0 (by kernel_rfl)) ⟨hx1, hy1⟩),
   fun a w hB hfr hdep => Step.plain rfl (dAlloc35 hB.size rfl), trivial⟩
 intro u1 hb1
 simp only [List.take, List.drop, FinAll, Act.put, lA, lS, lZ]
 rintro _ ⟨g2_1, rfl, l2_1, m2_1⟩ _ ⟨g4_1, rfl, l4_1, m4_1⟩
 have hO1 := (hO0).trans (hb1.mono (hO0).size)
 have lwm2_1 := Nat.le_trans (hO0).size l2_1
 have lwm4_1 := Nat.le_trans (hO0).size l4_1
 refine hK1 _ _ ?_
 clear hK1 K1
 refine wp_seq_k fun K2 hK2 => ?_
 refine wp_plain_inv 2 (specs [Rw (dd), Rw (dd)]) (specs_stb ⟨Rw.stb _, Rw.stb _, trivial⟩) (by kernel_rfl) ?_ ?_
 ·refine ⟨fun a w hB hfr hdep => Step.plain rfl (Does.call 49 #[] (by kernel_rfl) (rD w)),
   fun a w hB hfr hdep => Step.plain rfl (dAssign (R := Rw (dd)) rfl (hdep 0 13 (by kernel_rfl))), trivial⟩
 intro u2 hb2
 simp only [List.take, List.drop, FinAll, Act.put, lA, lS, lZ]
 rintro v13_2 h13_2 v5_2 h5_2
 have hO2 := (hO1).trans (hb2.mono (hO1).size)
 have m2_1__2 := block_below hb2 (lt_of_heap m2_1) m2_1
 have m4_1__2 := block_below hb2 (lt_of_heap m4_1) m4_1
 refine hK2 _ _ ?_
 clear hK2 K2
 refine wp_seq_k fun K3 hK3 => ?_
 refine wp_plain_inv 2 (specs [Rw (1), Rw (1)]) (specs_stb ⟨Rw.stb _, Rw.stb _, trivial⟩) (by kernel_rfl) ?_ ?_
 ·refine ⟨fun a w hB hfr hdep => Step.plain rfl (Does.call 28 #[.int .i64 1] (by kernel_rfl) (rInt w 1 (by decide))),
   fun a w hB hfr hdep => Step.plain rfl (dAssign (R := Rw (1)) rfl (hdep 0 14 (by kernel_rfl))), trivial⟩
 intro u3 hb3
 simp only [List.take, List.drop, FinAll, Act.put, lA, lS, lZ]
 rintro v14_3 h14_3 v6_3 h6_3
 have hO3 := (hO2).trans (hb3.mono (hO2).size)
 have m2_1__3 := block_below hb3 (lt_of_heap m2_1__2) m2_1__2
 have m4_1__3 := block_below hb3 (lt_of_heap m4_1__2) m4_1__2
 refine hK3 _ _ ?_
 clear hK3 K3
 refine wp_seq_k fun K4 hK4 => ?_
 refine wp_plain_inv 5 (specs [Rw (0), Rw (1), Rw (1), FrV (0) (1) (1), Box u3.heap.size (#[.slice none 0 0, .slice none 0 0, .slice none 0 0]) 76]) (specs_stb ⟨Rw.stb _, Rw.stb _, Rw.stb _, FrV.stb _ _ _, Box.stb _ _ _, trivial⟩) (by kernel_rfl) ?_ ?_
 ·refine ⟨fun a w hB hfr hdep => Step.plain rfl (Does.call 28 #[.int .i64 0] (by kernel_rfl) (rInt w 0 (by decide))),
   fun a w hB hfr hdep => Step.plain rfl (dMove (R := Rw (1)) rfl (use (hfr 6 (by kernel_rfl)) ((Rw.stb _) _ _ _ hB h6_3))),
   fun a w hB hfr hdep => Step.plain rfl (dMove (R := Rw (1)) rfl (use (hfr 6 (by kernel_rfl)) ((Rw.stb _) _ _ _ hB h6_3))),
   fun a w hB hfr hdep => Step.plain rfl (dBuild68 rfl (hdep 0 15 (by kernel_rfl)) (hdep 1 16 (by kernel_rfl)) (hdep 2 17 (by kernel_rfl))),
   fun a w hB hfr hdep => Step.plain rfl (dAlloc1068 hB.size rfl), trivial⟩
 intro u4 hb4
 simp only [List.take, List.drop, FinAll, Act.put, lA, lS, lZ]
 rintro v15_4 h15_4 v16_4 h16_4 v17_4 h17_4 _ ⟨p18_4, q18_4, r18_4, rfl, x18_4, y18_4, z18_4⟩ _ ⟨g7_4, rfl, l7_4, m7_4⟩
 refine wpList_store_row rfl 76 (.tmp 7) (.tmp 18) rfl _ (#[p18_4, q18_4, r18_4]) rfl rfl 76 _ m7_4 infoFr rfl (fr_one x18_4 y18_4 z18_4) ?_
 have n7_4 := setRow_heap _ _ _ (#[p18_4, q18_4, r18_4]) _ _ m7_4
 replace hb4 := setRow_below hb4 l7_4 (#[p18_4, q18_4, r18_4])
 replace x18_4 := Rw.setRow x18_4 m7_4 nz68 (#[p18_4, q18_4, r18_4])
 replace y18_4 := Rw.setRow y18_4 m7_4 nz68 (#[p18_4, q18_4, r18_4])
 replace z18_4 := Rw.setRow z18_4 m7_4 nz68 (#[p18_4, q18_4, r18_4])
 generalize hw4_1 : u4.setRow g7_4 (#[p18_4, q18_4, r18_4]) = u4_1 at n7_4 hb4 x18_4 y18_4 z18_4  ⊢
 clear hw4_1 m7_4
 have hO4 := (hO3).trans (hb4.mono (hO3).size)
 have m2_1__4 := block_below hb4 (lt_of_heap m2_1__3) m2_1__3
 have m4_1__4 := block_below hb4 (lt_of_heap m4_1__3) m4_1__3
 have lwn7_4 := Nat.le_trans (hO3).size l7_4
 refine hK4 _ _ ?_
 clear hK4 K4
 refine wp_seq_k fun K5 hK5 => ?_
 refine wp_plain_inv 7 (specs [Is (.pointer (some ⟨g2_1, 0, none⟩)), Rw (P.x), Is (.pointer (some ⟨g2_1, 1, none⟩)), Rw (P.y), Rw (1), FrV (P.x) (P.y) (1), Box u4_1.heap.size (#[.slice none 0 0, .slice none 0 0, .slice none 0 0]) 76]) (specs_stb ⟨Is.stb _, Rw.stb _, Is.stb _, Rw.stb _, Rw.stb _, FrV.stb _ _ _, Box.stb _ _ _, trivial⟩) (by kernel_rfl) ?_ ?_
 ·refine ⟨fun a w hB hfr hdep => Step.plain rfl (dFa35 g2_1 0 (by decide) rfl (hfr 2 (by kernel_rfl))),
   fun a w hB hfr hdep => Step.plain rfl (dLoadR0 (Rw.stb _ _ _ _ hb4 (Rw.stb _ _ _ _ hb3 (Rw.stb _ _ _ _ hb2 (Rw.stb _ _ _ _ hb1 hx1)))) hB (Rw.stb _ _ _ _ hb4 (Rw.stb _ _ _ _ hb3 (Rw.stb _ _ _ _ hb2 (Rw.stb _ _ _ _ hb1 hy1)))) (block_below hB (lt_of_heap m2_1__4) m2_1__4) rfl (hdep 0 19 (by kernel_rfl))),
   fun a w hB hfr hdep => Step.plain rfl (dFa35 g2_1 1 (by decide) rfl (hfr 2 (by kernel_rfl))),
   fun a w hB hfr hdep => Step.plain rfl (dLoadR1 (Rw.stb _ _ _ _ hb4 (Rw.stb _ _ _ _ hb3 (Rw.stb _ _ _ _ hb2 (Rw.stb _ _ _ _ hb1 hx1)))) hB (Rw.stb _ _ _ _ hb4 (Rw.stb _ _ _ _ hb3 (Rw.stb _ _ _ _ hb2 (Rw.stb _ _ _ _ hb1 hy1)))) (block_below hB (lt_of_heap m2_1__4) m2_1__4) rfl (hdep 2 21 (by kernel_rfl))),
   fun a w hB hfr hdep => Step.plain rfl (dMove (R := Rw (1)) rfl (use (hfr 6 (by kernel_rfl)) ((Rw.stb _) _ _ _ hB ((Rw.stb _) _ _ _ hb4 h6_3)))),
   fun a w hB hfr hdep => Step.plain rfl (dBuild68 rfl (hdep 1 20 (by kernel_rfl)) (hdep 3 22 (by kernel_rfl)) (hdep 4 23 (by kernel_rfl))),
   fun a w hB hfr hdep => Step.plain rfl (dAlloc1068 hB.size rfl), trivial⟩
 intro u5 hb5
 simp only [List.take, List.drop, FinAll, Act.put, lA, lS, lZ]
 rintro _ rfl v20_5 h20_5 _ rfl v22_5 h22_5 v23_5 h23_5 _ ⟨p24_5, q24_5, r24_5, rfl, x24_5, y24_5, z24_5⟩ _ ⟨g8_5, rfl, l8_5, m8_5⟩
 refine wpList_store_row rfl 76 (.tmp 8) (.tmp 24) rfl _ (#[p24_5, q24_5, r24_5]) rfl rfl 76 _ m8_5 infoFr rfl (fr_one x24_5 y24_5 z24_5) ?_
 have n8_5 := setRow_heap _ _ _ (#[p24_5, q24_5, r24_5]) _ _ m8_5
 replace hb5 := setRow_below hb5 l8_5 (#[p24_5, q24_5, r24_5])
 replace x24_5 := Rw.setRow x24_5 m8_5 nz68 (#[p24_5, q24_5, r24_5])
 replace y24_5 := Rw.setRow y24_5 m8_5 nz68 (#[p24_5, q24_5, r24_5])
 replace z24_5 := Rw.setRow z24_5 m8_5 nz68 (#[p24_5, q24_5, r24_5])
 generalize hw5_1 : u5.setRow g8_5 (#[p24_5, q24_5, r24_5]) = u5_1 at n8_5 hb5 x24_5 y24_5 z24_5  ⊢
 clear hw5_1 m8_5
 have hO5 := (hO4).trans (hb5.mono (hO4).size)
 have m2_1__5 := block_below hb5 (lt_of_heap m2_1__4) m2_1__4
 have m4_1__5 := block_below hb5 (lt_of_heap m4_1__4) m4_1__4
 have n7_4__5 := block_below hb5 (lt_of_heap n7_4) n7_4
 have lwn8_5 := Nat.le_trans (hO4).size l8_5
 refine hK5 _ _ ?_
 clear hK5 K5
 have MI0 : MI w v5_2 g4_1 g7_4 g8_5 (P.nm (valD l % 2 ^ (8 * 0))) (P.nm (2 ^ (8 * 0))) u5_1 := by
  rw [show valD l % 2 ^ (8 * 0) = 0 by simp [Nat.mod_one], show 2 ^ (8 * 0) = 1 from rfl, Pt.nm_one, Pt.nm_zero]
  exact ⟨hO5, ((Rw.stb _) _ _ _ hb5 ((Rw.stb _) _ _ _ hb4 ((Rw.stb _) _ _ _ hb3 h5_2))), m4_1__5, ⟨_, _, _, _, _, _, n7_4__5, (Rw.stb _ _ _ _ hb5 x18_4), (Rw.stb _ _ _ _ hb5 y18_4), (Rw.stb _ _ _ _ hb5 z18_4), fr_zero⟩, ⟨_, _, _, _, _, _, n8_5, x24_5, y24_5, z24_5, fr_aff P⟩⟩
 have q4 := lt_of_heap m4_1__3
 have q7 := lt_of_heap n7_4
 have n78 : g8_5 ≠ g7_4 := by omega
 have n47 : g4_1 ≠ g7_4 := by omega
 have n48 : g4_1 ≠ g8_5 := by have := hb4.size; omega
 have L7 : w.heap.size ≤ g7_4 := lwn7_4
 have L8 : w.heap.size ≤ g8_5 := lwn8_5
 obtain ⟨n, hn⟩ : ∃ n, n = l.length := ⟨_, rfl⟩
 have HN : Hid (l.length = n) := hn.symm
 rw [← hn] at hl hk1 ⊢
 obtain ⟨N, hNN⟩ : ∃ N, N = valD l := ⟨_, rfl⟩
 have HNN : Hid (N = valD l) := hNN
 rw [← hNN] at MI0 ⊢
 have hbyte : ∀ k, k < n → l.getD k 0 = N / 256 ^ k % 256 := fun k hk => by
  have e := digs_of hd HN.out hNN.symm
  rw [e, digs_get _ _ _ hk]
 have hb256 : ∀ k, N / 256 ^ k % 256 < 256 := fun k => Nat.mod_lt _ (by decide)
 clear hn hNN
 have HH : Hid _ := hbyte
 have HV : Hid (valD l < 256 ^ l.length) := by
  have := valD_take_lt hd l.length
  rwa [List.take_of_length_le (Nat.le_refl _)] at this
 clear hbyte hd hx1 hy1 hb1 hb2 hb3 hb4 hb5 m2_1 m4_1 m4_1__3 m4_1__5 n7_4 n7_4__5 n8_5 x18_4 y18_4 z18_4 x24_5 y24_5 z24_5 q4 q7
 go_wp2_with fail
 go_loopw [9] (fun i wr => ∃ k : Nat, k ≤ n ∧ i = .int .i64 k ∧ MI w v5_2 g4_1 g7_4 g8_5 (P.nm (N % 2 ^ (8 * k))) (P.nm (2 ^ (8 * k))) wr) (fun i _ => n - (intOf i).toNat)
 case atStart => exact ⟨0, by omega, rfl, MI0⟩
 case round =>
  obtain ⟨k, hk, rfl, hM⟩ := hrel
  clear MI0
  by_cases hlt : k < n
  ·have hlt32 : (k : Int) < 32 := by omega
   obtain ⟨gk, off, rfl, hbk⟩ := hkv (by rw [HN.out]; omega)
   obtain ⟨gk', off', e, hbk'⟩ := (hkv.below hM.bel) (by rw [HN.out]; omega)
   injection e with e; injection e with e1 e2; subst e1 e2
   have ck0 := hbk' k (by rw [HN.out]; omega)
   rw [HH.out k hlt] at ck0
   obtain ⟨kb, hkb⟩ : ∃ kb, kb = N / 256 ^ k % 256 := ⟨_, rfl⟩
   have hkb2 : kb < 256 := by rw [hkb]; exact hb256 k
   rw [← hkb] at ck0
   have HKB : Hid (kb = N / 256 ^ k % 256) := hkb
   clear hkb hbk hbk'
   obtain ⟨wo, hwo⟩ : ∃ wo : World, wo = wr := ⟨_, rfl⟩
   subst hwo
   go_wp2_with fail
   go_loopw [10, 11] (fun v i wr => ∃ j : Nat, j ≤ 8 ∧ i = .int .i64 j ∧ v = .int .i64 (kb / 2 ^ j : Nat) ∧ MI w v5_2 g4_1 g7_4 g8_5 (P.nm (N % 2 ^ (8 * k + j))) (P.nm (2 ^ (8 * k + j))) wr) (fun _ i _ => 8 - (intOf i).toNat)
   case atStart => exact ⟨0, by omega, rfl, by simp, hM⟩
   case round =>
    obtain ⟨j, hj, rfl, rfl, hI⟩ := hrel
    clear hM ck0
    by_cases hj8 : j < 8
    ·obtain ⟨vv, hvv⟩ : ∃ vv, vv = kb / 2 ^ j := ⟨_, rfl⟩
     have hv2 : vv / 2 = kb / 2 ^ (j + 1) := by rw [hvv, Nat.div_div_eq_div_mul, Nat.pow_succ]
     have hv3 : vv < 256 := by rw [hvv]; exact Nat.lt_of_le_of_lt (Nat.div_le_self _ _) hkb2
     have hbit : vv % 2 = N / 2 ^ (8 * k + j) % 2 := by rw [hvv, HKB.out]; exact bit_at N k j hj8
     have HV2 : Hid (vv / 2 = kb / 2 ^ (j + 1)) := hv2
     rw [← hvv]
     clear hvv hv2
     by_cases hb1 : vv % 2 = 1
     ·have hm : (vv : Int) % 2 = 1 := by omega
      rw [hb1] at hbit
      obtain ⟨p7, q7, r7, X7, Y7, Z7, h7b, x7, y7, z7, f7⟩ := hI.f7
      obtain ⟨p6, q6, r6, X6, Y6, Z6, h6b, x6, y6, z6, f6⟩ := hI.f8
      have fp7 : FrP (P.nm (N % 2 ^ (8 * k + j))) (.agg #[p7, q7, r7]) wr := ⟨X7, Y7, Z7, f7, p7, q7, r7, rfl, x7, y7, z7⟩
      have fp6 : FrP (P.nm (2 ^ (8 * k + j))) (.agg #[p6, q6, r6]) wr := ⟨X6, Y6, Z6, f6, p6, q6, r6, rfl, x6, y6, z6⟩
      have hC7 := rAddFr wr fp7 fp6 hI.dd5
      rw [nm_bit1 P N (8 * k + j) hbit.symm] at hC7
      clear hbit hb1
      go_wp2_with (first | (refine wpList_load_row rfl 76 (.tmp 7) rfl _ rfl 76 _ (0, 0) _ h7b Tryz.underlying76 rfl infoFr ?_) | (refine wpList_load_row rfl 76 (.tmp 8) rfl _ rfl 76 _ (0, 0) _ h6b Tryz.underlying76 rfl infoFr ?_))
      refine hC7.mono ?_
      rintro e w1 ⟨v, rfl, hB1, X, Y, Z, hf, pa, qa, ra, rfl, hx, hy, hz⟩
      have hI1 := hI.below hB1
      obtain ⟨p5, q5, r5, X5, Y5, Z5, h5b, _⟩ := hI1.f7
      have hI2 := hI1.set7 L7 n78 n47 hx hy hz hf
      obtain ⟨w2, hw2⟩ : ∃ w2, w2 = w1.setRow g7_4 #[pa, qa, ra] := ⟨_, rfl⟩
      rw [← hw2] at hI2
      obtain ⟨p8, q8, r8, X8, Y8, Z8, h8b, x8, y8, z8, f8⟩ := hI2.f8
      have fp8 : FrP (P.nm (2 ^ (8 * k + j))) (.agg #[p8, q8, r8]) w2 := ⟨X8, Y8, Z8, f8, p8, q8, r8, rfl, x8, y8, z8⟩
      have hC8 := rAddFr w2 fp8 fp8 hI2.dd5
      rw [nm_dbl] at hC8
      have h8c := h8b
      rw [hw2] at h8c
      have HW2 : Hid _ := hw2
      clear hw2 hC7
      go_wp2_with (first | (refine wpList_store_row rfl 76 (.tmp 7) (.tmp 50) rfl _ _ rfl rfl 76 _ h5b infoFr rfl (fr_one hx hy hz) ?_) | (refine wpList_load_row rfl 76 (.tmp 8) rfl _ rfl 76 _ (0, 0) _ h8c Tryz.underlying76 rfl infoFr ?_))
      rw [← HW2.out]
      clear h8c HW2
      refine hC8.mono ?_
      rintro e w3 ⟨v, rfl, hB3, X, Y, Z, hf, pb, qb, rb, rfl, hx, hy, hz⟩
      have hI3 := hI2.below hB3
      obtain ⟨p9, q9, r9, X9, Y9, Z9, h9b, _⟩ := hI3.f8
      have hI4 := hI3.set8 L8 (Ne.symm n78) n48 hx hy hz hf
      have HI4 : Hid _ := hI4
      clear hI4 hC8
      go_wp2_with (refine wpList_store_row rfl 76 (.tmp 8) (.tmp 56) rfl _ _ rfl rfl 76 _ h9b infoFr rfl (fr_one hx hy hz) ?_)
      go_roundw
      case rel => exact ⟨j + 1, by omega, by go_num, by rw [← HV2.out]; go_num, HI4.out⟩
      case measure => simp [intOf]; omega
     ·have hb0 : vv % 2 = 0 := by omega
      have hm : (vv : Int) % 2 = 0 := by omega
      rw [hb0] at hbit
      rw [nm_bit0 P N (8 * k + j) hbit.symm] at hI
      clear hbit hb1 hb0
      obtain ⟨p8, q8, r8, X8, Y8, Z8, h8b, x8, y8, z8, f8⟩ := hI.f8
      have fp8 : FrP (P.nm (2 ^ (8 * k + j))) (.agg #[p8, q8, r8]) wr := ⟨X8, Y8, Z8, f8, p8, q8, r8, rfl, x8, y8, z8⟩
      have hC8 := rAddFr wr fp8 fp8 hI.dd5
      rw [nm_dbl] at hC8
      go_wp2_with (first | (refine wpList_load_row rfl 76 (.tmp 8) rfl _ rfl 76 _ (0, 0) _ h8b Tryz.underlying76 rfl infoFr ?_))
      refine hC8.mono ?_
      rintro e w3 ⟨v, rfl, hB3, X, Y, Z, hf, pb, qb, rb, rfl, hx, hy, hz⟩
      have hI3 := hI.below hB3
      obtain ⟨p9, q9, r9, X9, Y9, Z9, h9b, _⟩ := hI3.f8
      have hI4 := hI3.set8 L8 (Ne.symm n78) n48 hx hy hz hf
      have HI4 : Hid _ := hI4
      clear hI4 hC8
      go_wp2_with (refine wpList_store_row rfl 76 (.tmp 8) (.tmp 56) rfl _ _ rfl rfl 76 _ h9b infoFr rfl (fr_one hx hy hz) ?_)
      go_roundw
      case rel => exact ⟨j + 1, by omega, by go_num, by rw [← HV2.out]; go_num, HI4.out⟩
      case measure => simp [intOf]; omega
    ·obtain rfl : j = 8 := by omega
     go_wp2_with fail
     go_roundw
     case rel => exact ⟨k + 1, by omega, by go_num, hI⟩
     case measure => simp [intOf]; omega
  ·obtain rfl : k = n := by omega
   have hNlt : N < 2 ^ (8 * k) := by
    rw [HNN.out, Nat.pow_mul, show (2 : Nat) ^ 8 = 256 from rfl, ← HN.out]
    exact HV.out
   rw [Nat.mod_eq_of_lt hNlt] at hM
   clear hNlt
   obtain ⟨p7, q7, r7, X7, Y7, Z7, h7b, x7, y7, z7, f7⟩ := hM.f7
   have c7 := cell_of_row _ g7_4 2 _ _ _ h7b
   rw [show (#[p7, q7, r7] : Array Value)[2]? = some r7 from rfl] at c7
   have hC := rInv wr z7
   obtain ⟨ar, cr, rfl, hr⟩ := id z7
   have hnk : ¬ ((k : Int) < (k : Int)) := by omega
   go_wp2_with fail
   refine hC.mono ?_
   rintro e w1 ⟨v12, rfl, hB1, hI1⟩
   have hM1 := hM.below hB1
   have h7c := block_below hB1 (lt_of_heap h7b) h7b
   have x7' := Rw.stb _ _ _ _ hB1 x7
   have y7' := Rw.stb _ _ _ _ hB1 y7
   have z7' := Rw.stb _ _ _ _ hB1 z7
   have ex := fr_back f7
   have hb4 := hM1.b4
   have hbl := hM1.bel
   clear hM1 hM hC h7b c7 f7
   go_wp2_with fail
   refine wp_region_inv 9 (specs [Is (.pointer (some ⟨g7_4, 0, none⟩)), Rw X7, Rw (fin Z7), Rw (X7 * fin Z7), Is (.pointer (some ⟨g7_4, 1, none⟩)), Rw Y7, Rw (fin Z7), Rw (Y7 * fin Z7), RPt (X7 * fin Z7) (Y7 * fin Z7)])
    (by kernel_rfl) (specs_stb ⟨Is.stb _, Rw.stb _, Rw.stb _, Rw.stb _, Is.stb _, Rw.stb _, Rw.stb _, Rw.stb _, RPt.stb _ _, trivial⟩) (by kernel_rfl) ?_ ?_
   ·refine ⟨fun a w hB hfr hdep => Step.plain rfl (dFa68 g7_4 0 (by decide) rfl (hfr 7 (by kernel_rfl))),
     fun a w hB hfr hdep => Step.plain rfl (dLoadF0 hB x7' y7' z7' (block_below hB (lt_of_heap h7c) h7c) rfl (hdep 0 60 (by kernel_rfl))),
     fun a w hB hfr hdep => Step.plain rfl (dMove (R := Rw (fin Z7)) rfl (use (hfr 12 (by kernel_rfl)) ((Rw.stb _) _ _ _ hB hI1))),
     fun a w hB hfr hdep => Step.plain rfl (Does.call 52 #[(a.eval (.tmp 61)), (a.eval (.tmp 62))] (by kernel_rfl) (rMul w (hdep 1 61 (by kernel_rfl)) (hdep 2 62 (by kernel_rfl)))),
     fun a w hB hfr hdep => Step.plain rfl (dFa68 g7_4 1 (by decide) rfl (hfr 7 (by kernel_rfl))),
     fun a w hB hfr hdep => Step.plain rfl (dLoadF1 hB x7' y7' z7' (block_below hB (lt_of_heap h7c) h7c) rfl (hdep 4 64 (by kernel_rfl))),
     fun a w hB hfr hdep => Step.plain rfl (dMove (R := Rw (fin Z7)) rfl (use (hfr 12 (by kernel_rfl)) ((Rw.stb _) _ _ _ hB hI1))),
     fun a w hB hfr hdep => Step.plain rfl (Does.call 52 #[(a.eval (.tmp 65)), (a.eval (.tmp 66))] (by kernel_rfl) (rMul w (hdep 5 65 (by kernel_rfl)) (hdep 6 66 (by kernel_rfl)))),
     fun a w hB hfr hdep => Step.plain rfl (dBuild35 rfl (hdep 3 63 (by kernel_rfl)) (hdep 7 67 (by kernel_rfl))), trivial⟩
   intro u hu
   simp only [List.take, List.drop, FinAll, Act.put, lA, lS, lZ]
   rintro _ rfl v61 h61 v62 h62 v63 h63 _ rfl v65 h65 v66 h66 v67 h67 _ ⟨pp1, qq1, rfl, hpx, hqy⟩
   have hb4u := block_below hu (lt_of_heap hb4) hb4
   have hblu := hbl.trans (hu.mono hbl.size)
   refine wpList_store_row rfl 45 (.tmp 4) (.tmp 68) rfl _ (#[pp1, qq1]) rfl rfl 45 _ hb4u info35 rfl (rpt_one hpx hqy) ?_
   have nf := setRow_heap u g4_1 _ (#[pp1, qq1]) _ _ hb4u
   have hpx' := Rw.setRow hpx hb4u nz35 (#[pp1, qq1])
   have hqy' := Rw.setRow hqy hb4u nz35 (#[pp1, qq1])
   have hbF := setRow_below hblu lwm4_1 (#[pp1, qq1])
   go_wp2
   refine bodyPost_ret (v := .agg (#[pp1, qq1])) ?_ rfl ⟨_, rfl, hbF, _, _, rfl, by rw [← ex.1]; exact hpx', by rw [← ex.2]; exact hqy'⟩
   exact results_cell_row Tryz.results21 _ _ _ 45 _ (0, 0) _ rfl nf Tryz.underlying45 rfl info35
end Go.Proofs.YtabgihjffjlfiaaGreatDoor
set_option linter.unusedVariables false
namespace Go.Proofs.YtabgihjffjlfiaaGreatDoor
namespace SR
def turn1 (W x : Nat) : Nat := x / 2 + (x % 2) * 2 ^ (W - 1)
def turnN (W x : Nat) : Nat → Nat
 | 0 => x
 | n + 1 => turn1 W (turnN W x n)
theorem rot_sum (W x n : Nat) (hx : x < 2 ^ W) (hn : n ≤ W) : rot W x n = x / 2 ^ n + x % 2 ^ n * 2 ^ (W - n) := by
 have hW : 2 ^ W = 2 ^ n * 2 ^ (W - n) := by rw [← Nat.pow_add]; congr 1; omega
 unfold rot
 have h1 : (x <<< (W - n)) % 2 ^ W = (x % 2 ^ n) <<< (W - n) := by
  rw [Nat.shiftLeft_eq, Nat.shiftLeft_eq, hW, Nat.mul_mod_mul_right]
 have h2 : x >>> n < 2 ^ (W - n) := by
  rw [Nat.shiftRight_eq_div_pow, Nat.div_lt_iff_lt_mul (Nat.two_pow_pos _), Nat.mul_comm, ← hW]; exact hx
 rw [h1, Nat.or_comm, ← Nat.shiftLeft_add_eq_or_of_lt h2, Nat.shiftLeft_eq, Nat.shiftRight_eq_div_pow, Nat.add_comm]
theorem turnN_sum (W x : Nat) (hx : x < 2 ^ W) : ∀ n, n ≤ W → turnN W x n = x / 2 ^ n + x % 2 ^ n * 2 ^ (W - n)
 | 0, _ => by simp [turnN, Nat.mod_one]
 | n + 1, hn => by
  have ih := turnN_sum W x hx n (by omega)
  rw [turnN, ih]
  have e1 : 2 ^ (W - n) = 2 * 2 ^ (W - (n + 1)) := by
   rw [show W - n = (W - (n + 1)) + 1 by omega, Nat.pow_succ, Nat.mul_comm]
  have e2 : x / 2 ^ (n + 1) = x / 2 ^ n / 2 := by rw [Nat.pow_succ, Nat.div_div_eq_div_mul]
  have e3 : x % 2 ^ (n + 1) = x % 2 ^ n + 2 ^ n * (x / 2 ^ n % 2) := by rw [Nat.pow_succ, Nat.mod_mul]
  have e4 : 2 ^ (W - 1) = 2 ^ n * 2 ^ (W - (n + 1)) := by rw [← Nat.pow_add]; congr 1; omega
  unfold turn1
  rw [e1, e2, e3, e4]
  generalize x / 2 ^ n = q
  generalize x % 2 ^ n = r
  generalize 2 ^ (W - (n + 1)) = t
  have h1 : (q + r * (2 * t)) / 2 = q / 2 + r * t := by
   rw [show r * (2 * t) = 2 * (r * t) by rw [← Nat.mul_assoc, Nat.mul_comm r 2, Nat.mul_assoc]]
   omega
  have h2 : (q + r * (2 * t)) % 2 = q % 2 := by
   rw [show r * (2 * t) = 2 * (r * t) by rw [← Nat.mul_assoc, Nat.mul_comm r 2, Nat.mul_assoc]]
   omega
  rw [h1, h2, Nat.add_mul, Nat.add_assoc]
  congr 2
  rw [← Nat.mul_assoc, Nat.mul_comm (q % 2) (2 ^ n)]
theorem turnN_rot (W x n : Nat) (hx : x < 2 ^ W) (hn : n ≤ W) : turnN W x n = rot W x n := by
 rw [turnN_sum W x hx n hn, rot_sum W x n hx hn]
theorem turn1_lt (W x : Nat) (hW : 0 < W) (hx : x < 2 ^ W) : turn1 W x < 2 ^ W := by
 have h : 2 ^ W = 2 ^ (W - 1) * 2 := by rw [← Nat.pow_succ]; congr 1; omega
 unfold turn1
 have h2 : x % 2 = 0 ∨ x % 2 = 1 := by omega
 rcases h2 with h2 | h2 <;> rw [h2] <;> omega
theorem turnN_lt (W x : Nat) (hW : 0 < W) (hx : x < 2 ^ W) : ∀ n, turnN W x n < 2 ^ W
 | 0 => hx
 | n + 1 => turn1_lt W _ hW (turnN_lt W x hW hx n)
def halfN (x : Nat) : Nat → Nat
 | 0 => x
 | n + 1 => halfN x n / 2
theorem halfN_shr (x : Nat) : ∀ n, halfN x n = x >>> n
 | 0 => rfl
 | n + 1 => by rw [halfN, halfN_shr x n, Nat.shiftRight_succ]
end SR
end Go.Proofs.YtabgihjffjlfiaaGreatDoor
