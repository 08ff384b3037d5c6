/-
  Equal, xWith's root.
-/
import Derived.Test.YtpfcboakafbnlaaDoorN5
set_option linter.unusedVariables false
namespace Go.Proofs.YtpfcboakafbnlaaDoor
open Go.RowKit Go.Sort Go.BigFrame
set_option maxRecDepth 100000
set_option maxHeartbeats 2000000
section
variable {ρ : Operand → Value} {o : Oper} {x y z t : Operand} {w : World}
theorem dPickT {R : Value → World → Prop} (ho : o.op = .pick x y z) (hx : ρ x = .bool true) (h : R (ρ y) w) : Does Tryd.prog o ρ w (fun v w' => Below w.heap.size w w' ∧ R v w') :=
  Does.run _ (by simp only [execOp, ho, hx]; kernel_rfl) h
theorem dPickF {R : Value → World → Prop} (ho : o.op = .pick x y z) (hx : ρ x = .bool false) (h : R (ρ z) w) : Does Tryd.prog o ρ w (fun v w' => Below w.heap.size w w' ∧ R v w') :=
  Does.run _ (by simp only [execOp, ho, hx]; kernel_rfl) h
theorem run_notO {b : Bool} (ho : o.op = .unOp .not 4 x) (hx : ρ x = .bool b) : (execOp ρ o).run Tryd.prog w = .ok (.value (.bool (!b))) w := by
  simp only [execOp, ho, hx]
  cases b <;> kernel_rfl
end
instance decPt : DecidableEq Pt := fun p q => if h : p.x = q.x ∧ p.y = q.y then .isTrue (Pt.ext h.1 h.2) else .isFalse fun e => h (by subst e; exact ⟨rfl, rfl⟩)
theorem cEqT {x y : Fe} (h : x = y) {v1 v2 : Value} (w w0 w1 : World) (h1 : El x v1 w0) (h2 : El y v2 w1) : Ret 52 #[v1, v2] w (Is (.bool true)) := by
  have := cEq w w0 w1 h1 h2
  rwa [decide_eq_true h] at this
theorem cEqF {x y : Fe} (h : ¬ x = y) {v1 v2 : Value} (w w0 w1 : World) (h1 : El x v1 w0) (h2 : El y v2 w1) : Ret 52 #[v1, v2] w (Is (.bool false)) := by
  have := cEq w w0 w1 h1 h2
  rwa [decide_eq_false h] at this
theorem cPEq {p q : Pt} {v1 v2 : Value} (w w0 w1 : World) (h1 : PtV p v1 w0) (h2 : PtV q v2 w1) : Ret 24 #[v1, v2] w (Is (.bool (decide (p = q)))) := by
  obtain ⟨cs1, rfl, X1, Y1, Z1, T1, h41, hr1⟩ := h1
  obtain ⟨cs2, rfl, X2, Y2, Z2, T2, h42, hr2⟩ := h2
  have hs := rep_same hr1 hr2
  unfold Ret
  by_cases hx : (X1) * (Z2) = (X2) * (Z1)
  · have hfin : ∀ w', Is (.bool (decide (p = q))) (.bool (decide ((Y1) * (Z2) = (Y2) * (Z1)))) w' := fun _ => by
      show Value.bool _ = Value.bool _
      congr 1
      rw [decide_eq_decide, hs]
      exact ⟨fun h => ⟨hx, h⟩, fun h => h.2⟩
    have hO0 : Below w.heap.size w w := Below.refl _ _
    go_enter Tryd.func24, Tryd.ntmps24
    refine wp_seq_k fun K1 hK1 => ?_
    refine wp_plain_inv 3 (specs [Box w.heap.size (cs1) 29, Box w.heap.size (cs2) 29, Is (.bool false)]) (specs_stb ⟨Box.stb _ _ _, Box.stb _ _ _, Is.stb _, trivial⟩) (by kernel_rfl) ?_ ?_
    · refine ⟨fun a w hB hfr hdep => Step.plain rfl (dBox29 hB.size rfl (hfr 0 (by kernel_rfl)) h41),
        fun a w hB hfr hdep => Step.plain rfl (dBox29 hB.size rfl (hfr 1 (by kernel_rfl)) h42),
        fun a w hB hfr hdep => Step.plain rfl (dAssign (R := Is (.bool false)) rfl rfl), trivial⟩
    intro u1 hb1
    simp only [List.take, List.drop, FinAll, Act.put, List.setIfInBounds_toArray, List.set_cons_succ, List.set_cons_zero]
    rintro _ ⟨g2_1, rfl, l2_1, m2_1⟩ _ ⟨g3_1, rfl, l3_1, m3_1⟩ _ rfl
    have hO1 := (hO0).trans (hb1.mono (hO0).size)
    have lwm2_1 := Nat.le_trans (hO0).size l2_1
    have lwm3_1 := Nat.le_trans (hO0).size l3_1
    refine hK1 _ _ ?_
    clear hK1 K1
    refine wp_seq_k fun K2 hK2 => ?_
    refine wp_region_inv 25 (specs [Is (.pointer (some ⟨g2_1, 0, none⟩)), El (X1), Is (.pointer (some ⟨g3_1, 10, none⟩)), El (Z2), El ((X1) * (Z2)), Is (.pointer (some ⟨g3_1, 0, none⟩)), El (X2), Is (.pointer (some ⟨g2_1, 10, none⟩)), El (Z1), El ((X2) * (Z1)), Is (.bool true), Is (.bool true), Is (.pointer (some ⟨g2_1, 5, none⟩)), El (Y1), Is (.pointer (some ⟨g3_1, 10, none⟩)), El (Z2), El ((Y1) * (Z2)), Is (.pointer (some ⟨g3_1, 5, none⟩)), El (Y2), Is (.pointer (some ⟨g2_1, 10, none⟩)), El (Z1), El ((Y2) * (Z1)), Is (.bool (decide (((Y1) * (Z2)) = ((Y2) * (Z1))))), Is (.bool (decide (((Y1) * (Z2)) = ((Y2) * (Z1))))), Is (.bool (decide (((Y1) * (Z2)) = ((Y2) * (Z1)))))]) (by kernel_rfl) (specs_stb ⟨Is.stb _, El.stb _, Is.stb _, El.stb _, El.stb _, Is.stb _, El.stb _, Is.stb _, El.stb _, El.stb _, Is.stb _, Is.stb _, Is.stb _, El.stb _, Is.stb _, El.stb _, El.stb _, Is.stb _, El.stb _, Is.stb _, El.stb _, El.stb _, Is.stb _, Is.stb _, Is.stb _, trivial⟩) (by kernel_rfl) ?_ ?_
    · refine ⟨fun a w hB hfr hdep => Step.plain rfl (dFa29 g2_1 0 (by decide) rfl (hfr 2 (by kernel_rfl))),
        fun a w hB hfr hdep => Step.plain rfl (dLoadPart (k := 0) h41 (block_below hB (lt_of_heap m2_1) m2_1) (by decide) rfl (hdep 0 5 (by kernel_rfl)) (fun _ h => h)),
        fun a w hB hfr hdep => Step.plain rfl (dFa29 g3_1 2 (by decide) rfl (hfr 3 (by kernel_rfl))),
        fun a w hB hfr hdep => Step.plain rfl (dLoadPart (k := 2) h42 (block_below hB (lt_of_heap m3_1) m3_1) (by decide) rfl (hdep 2 7 (by kernel_rfl)) (fun _ h => h)),
        fun a w hB hfr hdep => Step.plain rfl (Does.call 39 #[(a.eval (.tmp 6)), (a.eval (.tmp 8))] (by kernel_rfl) (cMul w w w (hdep 1 6 (by kernel_rfl)) (hdep 3 8 (by kernel_rfl)))),
        fun a w hB hfr hdep => Step.plain rfl (dFa29 g3_1 0 (by decide) rfl (hfr 3 (by kernel_rfl))),
        fun a w hB hfr hdep => Step.plain rfl (dLoadPart (k := 0) h42 (block_below hB (lt_of_heap m3_1) m3_1) (by decide) rfl (hdep 5 10 (by kernel_rfl)) (fun _ h => h)),
        fun a w hB hfr hdep => Step.plain rfl (dFa29 g2_1 2 (by decide) rfl (hfr 2 (by kernel_rfl))),
        fun a w hB hfr hdep => Step.plain rfl (dLoadPart (k := 2) h41 (block_below hB (lt_of_heap m2_1) m2_1) (by decide) rfl (hdep 7 12 (by kernel_rfl)) (fun _ h => h)),
        fun a w hB hfr hdep => Step.plain rfl (Does.call 39 #[(a.eval (.tmp 11)), (a.eval (.tmp 13))] (by kernel_rfl) (cMul w w w (hdep 6 11 (by kernel_rfl)) (hdep 8 13 (by kernel_rfl)))),
        fun a w hB hfr hdep => Step.plain rfl (Does.call 52 #[(a.eval (.tmp 9)), (a.eval (.tmp 14))] (by kernel_rfl) (cEqT hx w w w (hdep 4 9 (by kernel_rfl)) (hdep 9 14 (by kernel_rfl)))),
        fun a w hB hfr hdep => Step.plain rfl (dMove (R := Is (.bool true)) rfl (hdep 10 15 (by kernel_rfl))),
        fun a w hB hfr hdep => Step.yes 11 16 true rfl rfl (hdep 11 16 (by kernel_rfl)) (dFa29 g2_1 1 (by decide) rfl (hfr 2 (by kernel_rfl))),
        fun a w hB hfr hdep => Step.yes 11 16 true rfl rfl (hdep 11 16 (by kernel_rfl)) (dLoadPart (k := 1) h41 (block_below hB (lt_of_heap m2_1) m2_1) (by decide) rfl (hdep 12 17 (by kernel_rfl)) (fun _ h => h)),
        fun a w hB hfr hdep => Step.yes 11 16 true rfl rfl (hdep 11 16 (by kernel_rfl)) (dFa29 g3_1 2 (by decide) rfl (hfr 3 (by kernel_rfl))),
        fun a w hB hfr hdep => Step.yes 11 16 true rfl rfl (hdep 11 16 (by kernel_rfl)) (dLoadPart (k := 2) h42 (block_below hB (lt_of_heap m3_1) m3_1) (by decide) rfl (hdep 14 19 (by kernel_rfl)) (fun _ h => h)),
        fun a w hB hfr hdep => Step.yes 11 16 true rfl rfl (hdep 11 16 (by kernel_rfl)) (Does.call 39 #[(a.eval (.tmp 18)), (a.eval (.tmp 20))] (by kernel_rfl) (cMul w w w (hdep 13 18 (by kernel_rfl)) (hdep 15 20 (by kernel_rfl)))),
        fun a w hB hfr hdep => Step.yes 11 16 true rfl rfl (hdep 11 16 (by kernel_rfl)) (dFa29 g3_1 1 (by decide) rfl (hfr 3 (by kernel_rfl))),
        fun a w hB hfr hdep => Step.yes 11 16 true rfl rfl (hdep 11 16 (by kernel_rfl)) (dLoadPart (k := 1) h42 (block_below hB (lt_of_heap m3_1) m3_1) (by decide) rfl (hdep 17 22 (by kernel_rfl)) (fun _ h => h)),
        fun a w hB hfr hdep => Step.yes 11 16 true rfl rfl (hdep 11 16 (by kernel_rfl)) (dFa29 g2_1 2 (by decide) rfl (hfr 2 (by kernel_rfl))),
        fun a w hB hfr hdep => Step.yes 11 16 true rfl rfl (hdep 11 16 (by kernel_rfl)) (dLoadPart (k := 2) h41 (block_below hB (lt_of_heap m2_1) m2_1) (by decide) rfl (hdep 19 24 (by kernel_rfl)) (fun _ h => h)),
        fun a w hB hfr hdep => Step.yes 11 16 true rfl rfl (hdep 11 16 (by kernel_rfl)) (Does.call 39 #[(a.eval (.tmp 23)), (a.eval (.tmp 25))] (by kernel_rfl) (cMul w w w (hdep 18 23 (by kernel_rfl)) (hdep 20 25 (by kernel_rfl)))),
        fun a w hB hfr hdep => Step.yes 11 16 true rfl rfl (hdep 11 16 (by kernel_rfl)) (Does.call 52 #[(a.eval (.tmp 21)), (a.eval (.tmp 26))] (by kernel_rfl) (cEq w w w (hdep 16 21 (by kernel_rfl)) (hdep 21 26 (by kernel_rfl)))),
        fun a w hB hfr hdep => Step.plain rfl (dPickT rfl (hdep 11 16 (by kernel_rfl)) (hdep 22 27 (by kernel_rfl))),
        fun a w hB hfr hdep => Step.plain rfl (dAssign (R := Is (.bool (decide (((Y1) * (Z2)) = ((Y2) * (Z1)))))) rfl (hdep 23 28 (by kernel_rfl))), trivial⟩
    intro u2 hb2
    simp only [List.take, List.drop, FinAll, Act.put, List.setIfInBounds_toArray, List.set_cons_succ, List.set_cons_zero]
    rintro _ rfl v6_2 h6_2 _ rfl v8_2 h8_2 v9_2 h9_2 _ rfl v11_2 h11_2 _ rfl v13_2 h13_2 v14_2 h14_2 _ rfl _ rfl _ rfl v18_2 h18_2 _ rfl v20_2 h20_2 v21_2 h21_2 _ rfl v23_2 h23_2 _ rfl v25_2 h25_2 v26_2 h26_2 _ rfl _ rfl _ rfl
    have hO2 := (hO1).trans (hb2.mono (hO1).size)
    have m2_1__2 := block_below hb2 (lt_of_heap m2_1) m2_1
    have m3_1__2 := block_below hb2 (lt_of_heap m3_1) m3_1
    refine hK2 _ _ ?_
    clear hK2 K2
    refine wp_ret ?_
    refine bodyPost_ret (results_tmp rfl _ _ _) rfl ?_
    exact ⟨_, rfl, hO2, hfin _⟩
  · have hfin : ∀ w', Is (.bool (decide (p = q))) (.bool false) w' := fun _ => by
      show Value.bool _ = Value.bool _
      congr 1
      rw [eq_comm, decide_eq_false_iff_not, hs]
      exact fun h => hx h.1
    have hO0 : Below w.heap.size w w := Below.refl _ _
    go_enter Tryd.func24, Tryd.ntmps24
    refine wp_seq_k fun K1 hK1 => ?_
    refine wp_plain_inv 3 (specs [Box w.heap.size (cs1) 29, Box w.heap.size (cs2) 29, Is (.bool false)]) (specs_stb ⟨Box.stb _ _ _, Box.stb _ _ _, Is.stb _, trivial⟩) (by kernel_rfl) ?_ ?_
    · refine ⟨fun a w hB hfr hdep => Step.plain rfl (dBox29 hB.size rfl (hfr 0 (by kernel_rfl)) h41),
        fun a w hB hfr hdep => Step.plain rfl (dBox29 hB.size rfl (hfr 1 (by kernel_rfl)) h42),
        fun a w hB hfr hdep => Step.plain rfl (dAssign (R := Is (.bool false)) rfl rfl), trivial⟩
    intro u1 hb1
    simp only [List.take, List.drop, FinAll, Act.put, List.setIfInBounds_toArray, List.set_cons_succ, List.set_cons_zero]
    rintro _ ⟨g2_1, rfl, l2_1, m2_1⟩ _ ⟨g3_1, rfl, l3_1, m3_1⟩ _ rfl
    have hO1 := (hO0).trans (hb1.mono (hO0).size)
    have lwm2_1 := Nat.le_trans (hO0).size l2_1
    have lwm3_1 := Nat.le_trans (hO0).size l3_1
    refine hK1 _ _ ?_
    clear hK1 K1
    refine wp_seq_k fun K2 hK2 => ?_
    refine wp_region_inv 25 (specs [Is (.pointer (some ⟨g2_1, 0, none⟩)), El (X1), Is (.pointer (some ⟨g3_1, 10, none⟩)), El (Z2), El ((X1) * (Z2)), Is (.pointer (some ⟨g3_1, 0, none⟩)), El (X2), Is (.pointer (some ⟨g2_1, 10, none⟩)), El (Z1), El ((X2) * (Z1)), Is (.bool false), Is (.bool false), Is (undef), Is (undef), Is (undef), Is (undef), Is (undef), Is (undef), Is (undef), Is (undef), Is (undef), Is (undef), Is (undef), Is (.bool false), Is (.bool false)]) (by kernel_rfl) (specs_stb ⟨Is.stb _, El.stb _, Is.stb _, El.stb _, El.stb _, Is.stb _, El.stb _, Is.stb _, El.stb _, El.stb _, Is.stb _, Is.stb _, Is.stb _, Is.stb _, Is.stb _, Is.stb _, Is.stb _, Is.stb _, Is.stb _, Is.stb _, Is.stb _, Is.stb _, Is.stb _, Is.stb _, Is.stb _, trivial⟩) (by kernel_rfl) ?_ ?_
    · refine ⟨fun a w hB hfr hdep => Step.plain rfl (dFa29 g2_1 0 (by decide) rfl (hfr 2 (by kernel_rfl))),
        fun a w hB hfr hdep => Step.plain rfl (dLoadPart (k := 0) h41 (block_below hB (lt_of_heap m2_1) m2_1) (by decide) rfl (hdep 0 5 (by kernel_rfl)) (fun _ h => h)),
        fun a w hB hfr hdep => Step.plain rfl (dFa29 g3_1 2 (by decide) rfl (hfr 3 (by kernel_rfl))),
        fun a w hB hfr hdep => Step.plain rfl (dLoadPart (k := 2) h42 (block_below hB (lt_of_heap m3_1) m3_1) (by decide) rfl (hdep 2 7 (by kernel_rfl)) (fun _ h => h)),
        fun a w hB hfr hdep => Step.plain rfl (Does.call 39 #[(a.eval (.tmp 6)), (a.eval (.tmp 8))] (by kernel_rfl) (cMul w w w (hdep 1 6 (by kernel_rfl)) (hdep 3 8 (by kernel_rfl)))),
        fun a w hB hfr hdep => Step.plain rfl (dFa29 g3_1 0 (by decide) rfl (hfr 3 (by kernel_rfl))),
        fun a w hB hfr hdep => Step.plain rfl (dLoadPart (k := 0) h42 (block_below hB (lt_of_heap m3_1) m3_1) (by decide) rfl (hdep 5 10 (by kernel_rfl)) (fun _ h => h)),
        fun a w hB hfr hdep => Step.plain rfl (dFa29 g2_1 2 (by decide) rfl (hfr 2 (by kernel_rfl))),
        fun a w hB hfr hdep => Step.plain rfl (dLoadPart (k := 2) h41 (block_below hB (lt_of_heap m2_1) m2_1) (by decide) rfl (hdep 7 12 (by kernel_rfl)) (fun _ h => h)),
        fun a w hB hfr hdep => Step.plain rfl (Does.call 39 #[(a.eval (.tmp 11)), (a.eval (.tmp 13))] (by kernel_rfl) (cMul w w w (hdep 6 11 (by kernel_rfl)) (hdep 8 13 (by kernel_rfl)))),
        fun a w hB hfr hdep => Step.plain rfl (Does.call 52 #[(a.eval (.tmp 9)), (a.eval (.tmp 14))] (by kernel_rfl) (cEqF hx w w w (hdep 4 9 (by kernel_rfl)) (hdep 9 14 (by kernel_rfl)))),
        fun a w hB hfr hdep => Step.plain rfl (dMove (R := Is (.bool false)) rfl (hdep 10 15 (by kernel_rfl))),
        fun a w hB hfr hdep => Step.no 11 16 true rfl rfl (hdep 11 16 (by kernel_rfl)) rfl,
        fun a w hB hfr hdep => Step.no 11 16 true rfl rfl (hdep 11 16 (by kernel_rfl)) rfl,
        fun a w hB hfr hdep => Step.no 11 16 true rfl rfl (hdep 11 16 (by kernel_rfl)) rfl,
        fun a w hB hfr hdep => Step.no 11 16 true rfl rfl (hdep 11 16 (by kernel_rfl)) rfl,
        fun a w hB hfr hdep => Step.no 11 16 true rfl rfl (hdep 11 16 (by kernel_rfl)) rfl,
        fun a w hB hfr hdep => Step.no 11 16 true rfl rfl (hdep 11 16 (by kernel_rfl)) rfl,
        fun a w hB hfr hdep => Step.no 11 16 true rfl rfl (hdep 11 16 (by kernel_rfl)) rfl,
        fun a w hB hfr hdep => Step.no 11 16 true rfl rfl (hdep 11 16 (by kernel_rfl)) rfl,
        fun a w hB hfr hdep => Step.no 11 16 true rfl rfl (hdep 11 16 (by kernel_rfl)) rfl,
        fun a w hB hfr hdep => Step.no 11 16 true rfl rfl (hdep 11 16 (by kernel_rfl)) rfl,
        fun a w hB hfr hdep => Step.no 11 16 true rfl rfl (hdep 11 16 (by kernel_rfl)) rfl,
        fun a w hB hfr hdep => Step.plain rfl (dPickF rfl (hdep 11 16 (by kernel_rfl)) rfl),
        fun a w hB hfr hdep => Step.plain rfl (dAssign (R := Is (.bool false)) rfl (hdep 23 28 (by kernel_rfl))), trivial⟩
    intro u2 hb2
    simp only [List.take, List.drop, FinAll, Act.put, List.setIfInBounds_toArray, List.set_cons_succ, List.set_cons_zero]
    rintro _ rfl v6_2 h6_2 _ rfl v8_2 h8_2 v9_2 h9_2 _ rfl v11_2 h11_2 _ rfl v13_2 h13_2 v14_2 h14_2 _ rfl _ rfl _ rfl _ rfl _ rfl _ rfl _ rfl _ rfl _ rfl _ rfl _ rfl _ rfl _ rfl _ rfl _ rfl
    have hO2 := (hO1).trans (hb2.mono (hO1).size)
    have m2_1__2 := block_below hb2 (lt_of_heap m2_1) m2_1
    have m3_1__2 := block_below hb2 (lt_of_heap m3_1) m3_1
    refine hK2 _ _ ?_
    clear hK2 K2
    refine wp_ret ?_
    refine bodyPost_ret (results_tmp rfl _ _ _) rfl ?_
    exact ⟨_, rfl, hO2, hfin _⟩
end Go.Proofs.YtpfcboakafbnlaaDoor
