/-
  root, xWith.
-/
import Derived.Test.YtpfcboakafbnlaaDoorN8
set_option linter.unusedVariables false
namespace Go.Proofs.YtpfcboakafbnlaaDoor
open Go.RowKit Go.Sort Go.BigFrame
set_option maxRecDepth 100000
set_option maxHeartbeats 2000000
theorem Tab5.setRow {w w' : World} (h : Tab5 w) (hb : Below w.heap.size w w') {g : Nat} {cs : Array Value} (hg : 4 < g) : Tab5 (w'.setRow g cs) := by
  have h' := h.below hb
  have o : ∀ (k : Nat) (l : List Nat), k < 5 → BytesAt w' k 0 l → BytesAt (w'.setRow g cs) k 0 l := fun k l hk hl i hi => by
    rw [cell_setRow_other _ _ _ _ (by show k ≠ g; omega)]; exact hl i hi
  exact ⟨⟨o 0 _ (by omega) h'.t0, o 1 _ (by omega) h'.t1, o 2 _ (by omega) h'.t2⟩, o 3 _ (by omega) h'.t3, o 4 _ (by omega) h'.t4⟩
theorem Tab5.size {w : World} (h : Tab5 w) : 4 < w.heap.size := block_lt_of_cell (h.t4 0 (by decide))
theorem digrev {l : List Nat} (hd : Dig l) : Dig l.reverse := by
  intro j
  by_cases hj : j < l.reverse.length
  · rw [List.getD_eq_getElem?_getD, List.getElem?_eq_getElem hj, Option.getD_some, List.getElem_reverse]
    have := hd (l.length - 1 - j)
    rw [List.getD_eq_getElem?_getD, List.getElem?_eq_getElem (by rw [List.length_reverse] at hj; omega), Option.getD_some] at this
    exact this
  · rw [List.getD_eq_getElem?_getD, List.getElem?_eq_none (by omega)]; decide
/-- The root as the program finds it. -/
def rootOf (e : Nat) (a : Fe) : Fe := if pw a e * pw a e = a then pw a e else pw a e * ii
theorem cPowE {x : Fe} {v1 v2 : Value} {l : List Nat} {e : Nat} (he : valD l = e) (w w0 : World) (h1 : El x v1 w0) (h2 : Bts l v2 w) (hl : l.length ≤ 64) (hd : Dig l) : Ret 61 #[v1, v2] w (El (pw x e)) := by
  rw [← he]; exact cPow w w0 h1 h2 hl hd
theorem cRoot {a : Fe} {v : Value} {e : Nat} (he : valD tab3.reverse = e) (w w0 : World) (hT : Tab5 w) (h : El a v w0) : Ret 57 #[v] w (Tup2 (El (rootOf e a)) (Is (.bool (decide (rootOf e a * rootOf e a = a))))) := by
  obtain ⟨d, hd, rfl, hx⟩ := h
  unfold Ret rootOf
  by_cases hr : (pw a e) * (pw a e) = (a)
  · rw [if_pos hr]
    have hO0 : Below w.heap.size w w := Below.refl _ _
    go_enter Tryd.func57, Tryd.ntmps57
    refine wp_seq_k fun K1 hK1 => ?_
    refine wp_plain_inv 3 (specs [Box w.heap.size (elc d) 27, Box w.heap.size (elc zeroE) 27, Is (.bool false)]) (specs_stb ⟨Box.stb _ _ _, Box.stb _ _ _, Is.stb _, trivial⟩) (by kernel_rfl) ?_ ?_
    · refine ⟨fun a w hB hfr hdep => Step.plain rfl (dBox27 hB.size rfl (hfr 0 (by kernel_rfl)) trivial),
        fun a w hB hfr hdep => Step.plain rfl (dAlloc27 hB.size rfl),
        fun a w hB hfr hdep => Step.plain rfl (dAssign (R := Is (.bool false)) rfl rfl), trivial⟩
    intro u1 hb1
    simp only [List.take, List.drop, FinAll, Act.put, List.setIfInBounds_toArray, List.set_cons_succ, List.set_cons_zero]
    rintro _ ⟨g1_1, rfl, l1_1, m1_1⟩ _ ⟨g2_1, rfl, l2_1, m2_1⟩ _ rfl
    have hO1 := (hO0).trans (hb1.mono (hO0).size)
    have lwm1_1 := Nat.le_trans (hO0).size l1_1
    have lwm2_1 := Nat.le_trans (hO0).size l2_1
    have hT1 := Tab5.below hT hb1
    refine hK1 _ _ ?_
    clear hK1 K1
    refine wp_seq_k fun K2 hK2 => ?_
    refine wp_region_inv 5 (specs [El (a), Is (.agg (ints .u8 tab3)), Own u1.heap.size (tab3.reverse), El (pw a e), Box u1.heap.size (elc zeroE) 27]) (by kernel_rfl) (specs_stb ⟨El.stb _, Is.stb _, Own.stb _ _, El.stb _, Box.stb _ _ _, trivial⟩) (by kernel_rfl) ?_ ?_
    · refine ⟨fun a w hB hfr hdep => Step.plain rfl (dLoadEl hd hx (block_below hB (lt_of_heap m1_1) m1_1) rfl (hfr 1 (by kernel_rfl)) (fun _ h => h)),
        fun a w hB hfr hdep => Step.plain rfl (dLoadTab (Tab5.below hT1 hB).t3 rfl rfl rfl),
        fun a w hB hfr hdep => Step.plain rfl (Does.call 69 #[(a.eval (.tmp 6))] (by kernel_rfl) (ownLo hB.size (cTurned w w (hdep 1 6 (by kernel_rfl)) rfl))),
        fun a w hB hfr hdep => Step.plain rfl (Does.call 61 #[(a.eval (.tmp 5)), (a.eval (.tmp 7))] (by kernel_rfl) (cPowE he w w (hdep 0 5 (by kernel_rfl)) (Own.bts (hdep 2 7 (by kernel_rfl)) (by decide)) (by decide) (digrev tab3_dig))),
        fun a w hB hfr hdep => Step.plain rfl (dAlloc27 hB.size rfl), trivial⟩
    intro u2 hb2
    simp only [List.take, List.drop, FinAll, Act.put, List.setIfInBounds_toArray, List.set_cons_succ, List.set_cons_zero]
    rintro v5_2 h5_2 _ rfl v7_2 h7_2 _ ⟨e8_2, q8_2, rfl, x8_2⟩ _ ⟨g4_2, rfl, l4_2, m4_2⟩
    refine wpList_store_row rfl 27 (.tmp 4) (.tmp 8) rfl _ (elc e8_2) rfl rfl 27 _ m4_2 info26 rfl (elc_one _) ?_
    have n4_2 := setRow_heap _ _ _ (elc e8_2) _ _ m4_2
    replace hb2 := setRow_below hb2 l4_2 (elc e8_2)
    generalize hw2_1 : u2.setRow g4_2 (elc e8_2) = u2_1 at n4_2 hb2  ⊢
    clear hw2_1 m4_2
    have hO2 := (hO1).trans (hb2.mono (hO1).size)
    have m1_1__2 := block_below hb2 (lt_of_heap m1_1) m1_1
    have m2_1__2 := block_below hb2 (lt_of_heap m2_1) m2_1
    have lwn4_2 := Nat.le_trans (hO1).size l4_2
    have hT2 := Tab5.below hT1 hb2
    refine hK2 _ _ ?_
    clear hK2 K2
    refine wp_seq_k fun KO hKO => ?_
    refine wp_seq_k fun K3 hK3 => ?_
    refine wp_region_inv 6 (specs [El (pw a e), El (pw a e), El ((pw a e) * (pw a e)), El (a), Is (.bool true), Is (.bool false)]) (by kernel_rfl) (specs_stb ⟨El.stb _, El.stb _, El.stb _, El.stb _, Is.stb _, Is.stb _, trivial⟩) (by kernel_rfl) ?_ ?_
    · refine ⟨fun a w hB hfr hdep => Step.plain rfl (dLoadEl q8_2 x8_2 (block_below hB (lt_of_heap n4_2) n4_2) rfl (hfr 4 (by kernel_rfl)) (fun _ h => h)),
        fun a w hB hfr hdep => Step.plain rfl (dLoadEl q8_2 x8_2 (block_below hB (lt_of_heap n4_2) n4_2) rfl (hfr 4 (by kernel_rfl)) (fun _ h => h)),
        fun a w hB hfr hdep => Step.plain rfl (Does.call 39 #[(a.eval (.tmp 9)), (a.eval (.tmp 10))] (by kernel_rfl) (cMul w w w (hdep 0 9 (by kernel_rfl)) (hdep 1 10 (by kernel_rfl)))),
        fun a w hB hfr hdep => Step.plain rfl (dLoadEl hd hx (block_below hB (lt_of_heap m1_1__2) m1_1__2) rfl (hfr 1 (by kernel_rfl)) (fun _ h => h)),
        fun a w hB hfr hdep => Step.plain rfl (Does.call 52 #[(a.eval (.tmp 11)), (a.eval (.tmp 12))] (by kernel_rfl) (cEqT hr w w w (hdep 2 11 (by kernel_rfl)) (hdep 3 12 (by kernel_rfl)))),
        fun a w hB hfr hdep => Step.plain rfl (Does.run _ (run_notO rfl (hdep 4 13 (by kernel_rfl))) rfl), trivial⟩
    intro u3 hb3
    simp only [List.take, List.drop, FinAll, Act.put, List.setIfInBounds_toArray, List.set_cons_succ, List.set_cons_zero]
    rintro v9_3 h9_3 v10_3 h10_3 v11_3 h11_3 v12_3 h12_3 _ rfl _ rfl
    have hO3 := (hO2).trans (hb3.mono (hO2).size)
    have m1_1__3 := block_below hb3 (lt_of_heap m1_1__2) m1_1__2
    have m2_1__3 := block_below hb3 (lt_of_heap m2_1__2) m2_1__2
    have n4_2__3 := block_below hb3 (lt_of_heap n4_2) n4_2
    have hT3 := Tab5.below hT2 hb3
    refine hK3 _ _ ?_
    clear hK3 K3
    refine wp_cond_false rfl ?_
    refine wp_skip ?_
    refine hKO _ _ ?_
    clear hKO KO
    refine wp_seq_k fun K4 hK4 => ?_
    refine wp_region_inv 6 (specs [El (pw a e), El (pw a e), El (pw a e), El ((pw a e) * (pw a e)), El (a), Is (.bool (decide (((pw a e) * (pw a e)) = (a))))]) (by kernel_rfl) (specs_stb ⟨El.stb _, El.stb _, El.stb _, El.stb _, El.stb _, Is.stb _, trivial⟩) (by kernel_rfl) ?_ ?_
    · refine ⟨fun a w hB hfr hdep => Step.plain rfl (dLoadEl q8_2 x8_2 (block_below hB (lt_of_heap n4_2__3) n4_2__3) rfl (hfr 4 (by kernel_rfl)) (fun _ h => h)),
        fun a w hB hfr hdep => Step.plain rfl (dLoadEl q8_2 x8_2 (block_below hB (lt_of_heap n4_2__3) n4_2__3) rfl (hfr 4 (by kernel_rfl)) (fun _ h => h)),
        fun a w hB hfr hdep => Step.plain rfl (dLoadEl q8_2 x8_2 (block_below hB (lt_of_heap n4_2__3) n4_2__3) rfl (hfr 4 (by kernel_rfl)) (fun _ h => h)),
        fun a w hB hfr hdep => Step.plain rfl (Does.call 39 #[(a.eval (.tmp 20)), (a.eval (.tmp 21))] (by kernel_rfl) (cMul w w w (hdep 1 20 (by kernel_rfl)) (hdep 2 21 (by kernel_rfl)))),
        fun a w hB hfr hdep => Step.plain rfl (dLoadEl hd hx (block_below hB (lt_of_heap m1_1__3) m1_1__3) rfl (hfr 1 (by kernel_rfl)) (fun _ h => h)),
        fun a w hB hfr hdep => Step.plain rfl (Does.call 52 #[(a.eval (.tmp 22)), (a.eval (.tmp 23))] (by kernel_rfl) (cEq w w w (hdep 3 22 (by kernel_rfl)) (hdep 4 23 (by kernel_rfl)))), trivial⟩
    intro u4 hb4
    simp only [List.take, List.drop, FinAll, Act.put, List.setIfInBounds_toArray, List.set_cons_succ, List.set_cons_zero]
    rintro _ ⟨e19_4, q19_4, rfl, x19_4⟩ v20_4 h20_4 v21_4 h21_4 v22_4 h22_4 v23_4 h23_4 _ rfl
    have om2_1__3 := block_below hb4 (lt_of_heap m2_1__3) m2_1__3
    refine wpList_store_row rfl 27 (.tmp 2) (.tmp 19) rfl _ (elc e19_4) rfl rfl 27 _ om2_1__3 info26 rfl (elc_one _) ?_
    refine wpList_assign rfl rfl rfl ?_
    simp only [Act.put, Act.eval, Array.getD_eq_getD_getElem?, List.getElem?_toArray, List.getElem?_cons_succ, List.getElem?_cons_zero, Option.getD_some, List.setIfInBounds_toArray, List.set_cons_succ, List.set_cons_zero]
    have n2_4 := setRow_heap _ _ _ (elc e19_4) _ _ om2_1__3
    have hO4 := setRow_below (hO3.trans (hb4.mono (hO3).size)) lwm2_1 (elc e19_4)
    refine hK4 _ _ ?_
    clear hK4 K4
    refine wp_ret ?_
    refine bodyPost_ret (v := .tuple #[.agg (elc e19_4), .bool (decide ((pw a e) * (pw a e) = (a)))]) ?_ rfl ⟨_, rfl, hO4, ⟨_, _, rfl, ⟨_, q19_4, rfl, x19_4⟩, rfl⟩⟩
    exact results_cell_tmp Tryd.results57 _ _ _ 27 _ (0, 0) _ _ rfl rfl n2_4 Tryd.underlying27 rfl (by first | exact info26 | exact info29 | exact info35 | (rw [(Pt4.cells (by assumption)).1]; exact info29) | (rw [cellsP_size (by assumption)]; exact info29))
  · rw [if_neg hr]
    have hO0 : Below w.heap.size w w := Below.refl _ _
    go_enter Tryd.func57, Tryd.ntmps57
    refine wp_seq_k fun K1 hK1 => ?_
    refine wp_plain_inv 3 (specs [Box w.heap.size (elc d) 27, Box w.heap.size (elc zeroE) 27, Is (.bool false)]) (specs_stb ⟨Box.stb _ _ _, Box.stb _ _ _, Is.stb _, trivial⟩) (by kernel_rfl) ?_ ?_
    · refine ⟨fun a w hB hfr hdep => Step.plain rfl (dBox27 hB.size rfl (hfr 0 (by kernel_rfl)) trivial),
        fun a w hB hfr hdep => Step.plain rfl (dAlloc27 hB.size rfl),
        fun a w hB hfr hdep => Step.plain rfl (dAssign (R := Is (.bool false)) rfl rfl), trivial⟩
    intro u1 hb1
    simp only [List.take, List.drop, FinAll, Act.put, List.setIfInBounds_toArray, List.set_cons_succ, List.set_cons_zero]
    rintro _ ⟨g1_1, rfl, l1_1, m1_1⟩ _ ⟨g2_1, rfl, l2_1, m2_1⟩ _ rfl
    have hO1 := (hO0).trans (hb1.mono (hO0).size)
    have lwm1_1 := Nat.le_trans (hO0).size l1_1
    have lwm2_1 := Nat.le_trans (hO0).size l2_1
    have hT1 := Tab5.below hT hb1
    refine hK1 _ _ ?_
    clear hK1 K1
    refine wp_seq_k fun K2 hK2 => ?_
    refine wp_region_inv 5 (specs [El (a), Is (.agg (ints .u8 tab3)), Own u1.heap.size (tab3.reverse), El (pw a e), Box u1.heap.size (elc zeroE) 27]) (by kernel_rfl) (specs_stb ⟨El.stb _, Is.stb _, Own.stb _ _, El.stb _, Box.stb _ _ _, trivial⟩) (by kernel_rfl) ?_ ?_
    · refine ⟨fun a w hB hfr hdep => Step.plain rfl (dLoadEl hd hx (block_below hB (lt_of_heap m1_1) m1_1) rfl (hfr 1 (by kernel_rfl)) (fun _ h => h)),
        fun a w hB hfr hdep => Step.plain rfl (dLoadTab (Tab5.below hT1 hB).t3 rfl rfl rfl),
        fun a w hB hfr hdep => Step.plain rfl (Does.call 69 #[(a.eval (.tmp 6))] (by kernel_rfl) (ownLo hB.size (cTurned w w (hdep 1 6 (by kernel_rfl)) rfl))),
        fun a w hB hfr hdep => Step.plain rfl (Does.call 61 #[(a.eval (.tmp 5)), (a.eval (.tmp 7))] (by kernel_rfl) (cPowE he w w (hdep 0 5 (by kernel_rfl)) (Own.bts (hdep 2 7 (by kernel_rfl)) (by decide)) (by decide) (digrev tab3_dig))),
        fun a w hB hfr hdep => Step.plain rfl (dAlloc27 hB.size rfl), trivial⟩
    intro u2 hb2
    simp only [List.take, List.drop, FinAll, Act.put, List.setIfInBounds_toArray, List.set_cons_succ, List.set_cons_zero]
    rintro v5_2 h5_2 _ rfl v7_2 h7_2 _ ⟨e8_2, q8_2, rfl, x8_2⟩ _ ⟨g4_2, rfl, l4_2, m4_2⟩
    refine wpList_store_row rfl 27 (.tmp 4) (.tmp 8) rfl _ (elc e8_2) rfl rfl 27 _ m4_2 info26 rfl (elc_one _) ?_
    have n4_2 := setRow_heap _ _ _ (elc e8_2) _ _ m4_2
    replace hb2 := setRow_below hb2 l4_2 (elc e8_2)
    generalize hw2_1 : u2.setRow g4_2 (elc e8_2) = u2_1 at n4_2 hb2  ⊢
    clear hw2_1 m4_2
    have hO2 := (hO1).trans (hb2.mono (hO1).size)
    have m1_1__2 := block_below hb2 (lt_of_heap m1_1) m1_1
    have m2_1__2 := block_below hb2 (lt_of_heap m2_1) m2_1
    have lwn4_2 := Nat.le_trans (hO1).size l4_2
    have hT2 := Tab5.below hT1 hb2
    refine hK2 _ _ ?_
    clear hK2 K2
    refine wp_seq_k fun KO hKO => ?_
    refine wp_seq_k fun K3 hK3 => ?_
    refine wp_region_inv 6 (specs [El (pw a e), El (pw a e), El ((pw a e) * (pw a e)), El (a), Is (.bool false), Is (.bool true)]) (by kernel_rfl) (specs_stb ⟨El.stb _, El.stb _, El.stb _, El.stb _, Is.stb _, Is.stb _, trivial⟩) (by kernel_rfl) ?_ ?_
    · refine ⟨fun a w hB hfr hdep => Step.plain rfl (dLoadEl q8_2 x8_2 (block_below hB (lt_of_heap n4_2) n4_2) rfl (hfr 4 (by kernel_rfl)) (fun _ h => h)),
        fun a w hB hfr hdep => Step.plain rfl (dLoadEl q8_2 x8_2 (block_below hB (lt_of_heap n4_2) n4_2) rfl (hfr 4 (by kernel_rfl)) (fun _ h => h)),
        fun a w hB hfr hdep => Step.plain rfl (Does.call 39 #[(a.eval (.tmp 9)), (a.eval (.tmp 10))] (by kernel_rfl) (cMul w w w (hdep 0 9 (by kernel_rfl)) (hdep 1 10 (by kernel_rfl)))),
        fun a w hB hfr hdep => Step.plain rfl (dLoadEl hd hx (block_below hB (lt_of_heap m1_1__2) m1_1__2) rfl (hfr 1 (by kernel_rfl)) (fun _ h => h)),
        fun a w hB hfr hdep => Step.plain rfl (Does.call 52 #[(a.eval (.tmp 11)), (a.eval (.tmp 12))] (by kernel_rfl) (cEqF hr w w w (hdep 2 11 (by kernel_rfl)) (hdep 3 12 (by kernel_rfl)))),
        fun a w hB hfr hdep => Step.plain rfl (Does.run _ (run_notO rfl (hdep 4 13 (by kernel_rfl))) rfl), trivial⟩
    intro u3 hb3
    simp only [List.take, List.drop, FinAll, Act.put, List.setIfInBounds_toArray, List.set_cons_succ, List.set_cons_zero]
    rintro v9_3 h9_3 v10_3 h10_3 v11_3 h11_3 v12_3 h12_3 _ rfl _ rfl
    have hO3 := (hO2).trans (hb3.mono (hO2).size)
    have m1_1__3 := block_below hb3 (lt_of_heap m1_1__2) m1_1__2
    have m2_1__3 := block_below hb3 (lt_of_heap m2_1__2) m2_1__2
    have n4_2__3 := block_below hb3 (lt_of_heap n4_2) n4_2
    have hT3 := Tab5.below hT2 hb3
    refine hK3 _ _ ?_
    clear hK3 K3
    refine wp_cond_true rfl ?_
    have n1 : g1_1 ≠ g4_2 := by have := lt_of_heap m1_1; omega
    have n2 : g2_1 ≠ g4_2 := by have := lt_of_heap m2_1; omega
    have n5 : 4 < g4_2 := by have := hT.size; omega
    refine wp_region_inv 4 (specs [El (pw a e), Is (.agg (ints .u8 tab4)), El (ii), El ((pw a e) * (ii))]) (by kernel_rfl) (specs_stb ⟨El.stb _, Is.stb _, El.stb _, El.stb _, trivial⟩) (by kernel_rfl) ?_ ?_
    · refine ⟨fun a w hB hfr hdep => Step.plain rfl (dLoadEl q8_2 x8_2 (block_below hB (lt_of_heap n4_2__3) n4_2__3) rfl (hfr 4 (by kernel_rfl)) (fun _ h => h)),
        fun a w hB hfr hdep => Step.plain rfl (dLoadTab (Tab5.below hT3 hB).t4 rfl rfl rfl),
        fun a w hB hfr hdep => Step.plain rfl (Does.call 47 #[(a.eval (.tmp 16))] (by kernel_rfl) (cKnown w w (hdep 1 16 (by kernel_rfl)) rfl tab4_dig (by decide) tab4_val)),
        fun a w hB hfr hdep => Step.plain rfl (Does.call 39 #[(a.eval (.tmp 15)), (a.eval (.tmp 17))] (by kernel_rfl) (cMul w w w (hdep 0 15 (by kernel_rfl)) (hdep 2 17 (by kernel_rfl)))), trivial⟩
    intro u4 hb4
    simp only [List.take, List.drop, FinAll, Act.put, List.setIfInBounds_toArray, List.set_cons_succ, List.set_cons_zero]
    rintro v15_4 h15_4 _ rfl v17_4 h17_4 _ ⟨e18_4, q18_4, rfl, x18_4⟩
    have on4_2__3 := block_below hb4 (lt_of_heap n4_2__3) n4_2__3
    refine wpList_store_row rfl 27 (.tmp 4) (.tmp 18) rfl _ (elc e18_4) rfl rfl 27 _ on4_2__3 info26 rfl (elc_one _) ?_
    have n4_4 := setRow_heap _ _ _ (elc e18_4) _ _ on4_2__3
    have hO4 := setRow_below (hO3.trans (hb4.mono (hO3).size)) lwn4_2 (elc e18_4)
    have m1_1__4 := (setRow_other u4 g4_2 g1_1 (elc e18_4) n1).trans (block_below hb4 (lt_of_heap m1_1__3) m1_1__3)
    have m2_1__4 := (setRow_other u4 g4_2 g2_1 (elc e18_4) n2).trans (block_below hb4 (lt_of_heap m2_1__3) m2_1__3)
    have hT4 : Tab5 (u4.setRow g4_2 (elc e18_4)) := hT3.setRow hb4 (n5)
    generalize u4.setRow g4_2 (elc e18_4) = u4_s at hO4 m1_1__4 m2_1__4 n4_4 hT4 ⊢
    refine hKO _ _ ?_
    clear hKO KO
    refine wp_seq_k fun K5 hK5 => ?_
    refine wp_region_inv 6 (specs [El ((pw a e) * (ii)), El ((pw a e) * (ii)), El ((pw a e) * (ii)), El (((pw a e) * (ii)) * ((pw a e) * (ii))), El (a), Is (.bool (decide ((((pw a e) * (ii)) * ((pw a e) * (ii))) = (a))))]) (by kernel_rfl) (specs_stb ⟨El.stb _, El.stb _, El.stb _, El.stb _, El.stb _, Is.stb _, trivial⟩) (by kernel_rfl) ?_ ?_
    · refine ⟨fun a w hB hfr hdep => Step.plain rfl (dLoadEl q18_4 x18_4 (block_below hB (lt_of_heap n4_4) n4_4) rfl (hfr 4 (by kernel_rfl)) (fun _ h => h)),
        fun a w hB hfr hdep => Step.plain rfl (dLoadEl q18_4 x18_4 (block_below hB (lt_of_heap n4_4) n4_4) rfl (hfr 4 (by kernel_rfl)) (fun _ h => h)),
        fun a w hB hfr hdep => Step.plain rfl (dLoadEl q18_4 x18_4 (block_below hB (lt_of_heap n4_4) n4_4) rfl (hfr 4 (by kernel_rfl)) (fun _ h => h)),
        fun a w hB hfr hdep => Step.plain rfl (Does.call 39 #[(a.eval (.tmp 20)), (a.eval (.tmp 21))] (by kernel_rfl) (cMul w w w (hdep 1 20 (by kernel_rfl)) (hdep 2 21 (by kernel_rfl)))),
        fun a w hB hfr hdep => Step.plain rfl (dLoadEl hd hx (block_below hB (lt_of_heap m1_1__4) m1_1__4) rfl (hfr 1 (by kernel_rfl)) (fun _ h => h)),
        fun a w hB hfr hdep => Step.plain rfl (Does.call 52 #[(a.eval (.tmp 22)), (a.eval (.tmp 23))] (by kernel_rfl) (cEq w w w (hdep 3 22 (by kernel_rfl)) (hdep 4 23 (by kernel_rfl)))), trivial⟩
    intro u5 hb5
    simp only [List.take, List.drop, FinAll, Act.put, List.setIfInBounds_toArray, List.set_cons_succ, List.set_cons_zero]
    rintro _ ⟨e19_5, q19_5, rfl, x19_5⟩ v20_5 h20_5 v21_5 h21_5 v22_5 h22_5 v23_5 h23_5 _ rfl
    have om2_1__4 := block_below hb5 (lt_of_heap m2_1__4) m2_1__4
    refine wpList_store_row rfl 27 (.tmp 2) (.tmp 19) rfl _ (elc e19_5) rfl rfl 27 _ om2_1__4 info26 rfl (elc_one _) ?_
    refine wpList_assign rfl rfl rfl ?_
    simp only [Act.put, Act.eval, Array.getD_eq_getD_getElem?, List.getElem?_toArray, List.getElem?_cons_succ, List.getElem?_cons_zero, Option.getD_some, List.setIfInBounds_toArray, List.set_cons_succ, List.set_cons_zero]
    have n2_5 := setRow_heap _ _ _ (elc e19_5) _ _ om2_1__4
    have hO5 := setRow_below (hO4.trans (hb5.mono (hO4).size)) lwm2_1 (elc e19_5)
    refine hK5 _ _ ?_
    clear hK5 K5
    refine wp_ret ?_
    refine bodyPost_ret (v := .tuple #[.agg (elc e19_5), .bool (decide (((pw a e) * (ii)) * ((pw a e) * (ii)) = (a)))]) ?_ rfl ⟨_, rfl, hO5, ⟨_, _, rfl, ⟨_, q19_5, rfl, x19_5⟩, rfl⟩⟩
    exact results_cell_tmp Tryd.results57 _ _ _ 27 _ (0, 0) _ _ rfl rfl n2_5 Tryd.underlying27 rfl (by first | exact info26 | exact info29 | exact info35 | (rw [(Pt4.cells (by assumption)).1]; exact info29) | (rw [cellsP_size (by assumption)]; exact info29))
theorem cXWith {y : Fe} {v : Value} {e : Nat} (he : valD tab3.reverse = e) (w w0 : World) (hT : Tab5 w) (h : El y v w0) : Ret 31 #[v] w (Tup2 (El (rootOf e (av y))) (Is (.bool (decide (rootOf e (av y) * rootOf e (av y) = av y))))) := by
  obtain ⟨d, hd, rfl, hx⟩ := h
  unfold Ret
  have hO0 : Below w.heap.size w w := Below.refl _ _
  go_enter Tryd.func31, Tryd.ntmps31
  refine wp_seq_k fun K1 hK1 => ?_
  refine wp_plain_inv 3 (specs [Box w.heap.size (elc d) 27, Box w.heap.size (elc zeroE) 27, Is (.bool false)]) (specs_stb ⟨Box.stb _ _ _, Box.stb _ _ _, Is.stb _, trivial⟩) (by kernel_rfl) ?_ ?_
  · refine ⟨fun a w hB hfr hdep => Step.plain rfl (dBox27 hB.size rfl (hfr 0 (by kernel_rfl)) trivial),
      fun a w hB hfr hdep => Step.plain rfl (dAlloc27 hB.size rfl),
      fun a w hB hfr hdep => Step.plain rfl (dAssign (R := Is (.bool false)) rfl rfl), trivial⟩
  intro u1 hb1
  simp only [List.take, List.drop, FinAll, Act.put, List.setIfInBounds_toArray, List.set_cons_succ, List.set_cons_zero]
  rintro _ ⟨g1_1, rfl, l1_1, m1_1⟩ _ ⟨g2_1, rfl, l2_1, m2_1⟩ _ rfl
  have hO1 := (hO0).trans (hb1.mono (hO0).size)
  have lwm1_1 := Nat.le_trans (hO0).size l1_1
  have lwm2_1 := Nat.le_trans (hO0).size l2_1
  have hT1 := Tab5.below hT hb1
  refine hK1 _ _ ?_
  clear hK1 K1
  refine wp_seq_k fun K2 hK2 => ?_
  refine wp_region_inv2 (pi := 4) (pj := 5) (di := 4) (dj := 5) 6 (specs [El (1), El (y), El (y), El ((y) * (y)), Box u1.heap.size (elc zeroE) 27, Box u1.heap.size (elc zeroE) 27]) (by kernel_rfl) (specs_stb ⟨El.stb _, El.stb _, El.stb _, El.stb _, Box.stb _ _ _, Box.stb _ _ _, trivial⟩) (by kernel_rfl) ?_ (by decide) (by decide) (by decide) ?_ ?_ ?_ rfl rfl ?_
  · refine ⟨fun a w hB hfr hdep => Step.plain rfl (Does.call 53 #[.int .i64 1] (by kernel_rfl) (cInt1 w)),
      fun a w hB hfr hdep => Step.plain rfl (dLoadEl hd hx (block_below hB (lt_of_heap m1_1) m1_1) rfl (hfr 1 (by kernel_rfl)) (fun _ h => h)),
      fun a w hB hfr hdep => Step.plain rfl (dLoadEl hd hx (block_below hB (lt_of_heap m1_1) m1_1) rfl (hfr 1 (by kernel_rfl)) (fun _ h => h)),
      fun a w hB hfr hdep => Step.plain rfl (Does.call 39 #[(a.eval (.tmp 8)), (a.eval (.tmp 9))] (by kernel_rfl) (cMul w w w (hdep 1 8 (by kernel_rfl)) (hdep 2 9 (by kernel_rfl)))),
      fun a w hB hfr hdep => Step.plain rfl (dAlloc27 hB.size rfl),
      fun a w hB hfr hdep => Step.plain rfl (dAlloc27 hB.size rfl), trivial⟩
  · rintro i (rfl | rfl)
    · exact ⟨_, _, rfl, fun ρ w => al27 rfl⟩
    · exact ⟨_, _, rfl, fun ρ w => al27 rfl⟩
  · rintro i (rfl | rfl) v w g ⟨g1, h1, h2, h3⟩ h4
    · rw [h1] at h4; injection h4 with h5; injection h5 with h6; injection h6 with h7; exact h7 ▸ lt_of_heap h3
    · rw [h1] at h4; injection h4 with h5; injection h5 with h6; injection h6 with h7; exact h7 ▸ lt_of_heap h3
  · rintro i o (rfl | rfl) h
    · injection h with h; rw [← h]
    · injection h with h; rw [← h]
  intro u2 hb2
  simp only [List.take, List.drop, FinAll, Act.put, List.setIfInBounds_toArray, List.set_cons_succ, List.set_cons_zero]
  rintro _ ⟨e7_2, q7_2, rfl, x7_2⟩ v8_2 h8_2 v9_2 h9_2 _ ⟨e10_2, q10_2, rfl, x10_2⟩ _ ⟨g4_2, rfl, l4_2, m4_2⟩ _ ⟨g5_2, rfl, l5_2, m5_2⟩ nn2
  replace nn2 := nn2 _ _ rfl rfl
  refine wpList_store_row rfl 27 (.tmp 4) (.tmp 7) rfl _ (elc e7_2) rfl rfl 27 _ m4_2 info26 rfl (elc_one _) ?_
  have n4_2 := setRow_heap _ _ _ (elc e7_2) _ _ m4_2
  replace m5_2 := (setRow_other u2 g4_2 g5_2 (elc e7_2) (by first | exact nn2 | exact Ne.symm nn2 | omega)).trans m5_2
  replace hb2 := setRow_below hb2 l4_2 (elc e7_2)
  generalize hw2_1 : u2.setRow g4_2 (elc e7_2) = u2_1 at n4_2 hb2 m5_2 ⊢
  clear hw2_1 m4_2
  refine wpList_store_row rfl 27 (.tmp 5) (.tmp 10) rfl _ (elc e10_2) rfl rfl 27 _ m5_2 info26 rfl (elc_one _) ?_
  have n5_2 := setRow_heap _ _ _ (elc e10_2) _ _ m5_2
  replace n4_2 := (setRow_other u2_1 g5_2 g4_2 (elc e10_2) (by first | exact nn2 | exact Ne.symm nn2 | omega)).trans n4_2
  replace hb2 := setRow_below hb2 l5_2 (elc e10_2)
  generalize hw2_2 : u2_1.setRow g5_2 (elc e10_2) = u2_2 at n5_2 hb2 n4_2 ⊢
  clear hw2_2 m5_2
  have hO2 := (hO1).trans (hb2.mono (hO1).size)
  have m1_1__2 := block_below hb2 (lt_of_heap m1_1) m1_1
  have m2_1__2 := block_below hb2 (lt_of_heap m2_1) m2_1
  have lwn4_2 := Nat.le_trans (hO1).size l4_2
  have lwn5_2 := Nat.le_trans (hO1).size l5_2
  have hT2 := Tab5.below hT1 hb2
  refine hK2 _ _ ?_
  clear hK2 K2
  refine wp_seq_k fun K3 hK3 => ?_
  refine wp_region_inv 7 (specs [Is (.agg (ints .u8 tab2)), El (dd), El ((y) * (y)), El ((dd) * ((y) * (y))), El (1), El (((dd) * ((y) * (y))) + (1)), Box u2_2.heap.size (elc zeroE) 27]) (by kernel_rfl) (specs_stb ⟨Is.stb _, El.stb _, El.stb _, El.stb _, El.stb _, El.stb _, Box.stb _ _ _, trivial⟩) (by kernel_rfl) ?_ ?_
  · refine ⟨fun a w hB hfr hdep => Step.plain rfl (dLoadTab (Tab5.below hT2 hB).t2 rfl rfl rfl),
      fun a w hB hfr hdep => Step.plain rfl (Does.call 47 #[(a.eval (.tmp 11))] (by kernel_rfl) (cKnown w w (hdep 0 11 (by kernel_rfl)) rfl tab2_dig (by decide) tab2_val)),
      fun a w hB hfr hdep => Step.plain rfl (dLoadEl q10_2 x10_2 (block_below hB (lt_of_heap n5_2) n5_2) rfl (hfr 5 (by kernel_rfl)) (fun _ h => h)),
      fun a w hB hfr hdep => Step.plain rfl (Does.call 39 #[(a.eval (.tmp 12)), (a.eval (.tmp 13))] (by kernel_rfl) (cMul w w w (hdep 1 12 (by kernel_rfl)) (hdep 2 13 (by kernel_rfl)))),
      fun a w hB hfr hdep => Step.plain rfl (dLoadEl q7_2 x7_2 (block_below hB (lt_of_heap n4_2) n4_2) rfl (hfr 4 (by kernel_rfl)) (fun _ h => h)),
      fun a w hB hfr hdep => Step.plain rfl (Does.call 56 #[(a.eval (.tmp 14)), (a.eval (.tmp 15))] (by kernel_rfl) (cAdd w w w (hdep 3 14 (by kernel_rfl)) (hdep 4 15 (by kernel_rfl)))),
      fun a w hB hfr hdep => Step.plain rfl (dAlloc27 hB.size rfl), trivial⟩
  intro u3 hb3
  simp only [List.take, List.drop, FinAll, Act.put, List.setIfInBounds_toArray, List.set_cons_succ, List.set_cons_zero]
  rintro _ rfl v12_3 h12_3 v13_3 h13_3 v14_3 h14_3 v15_3 h15_3 _ ⟨e16_3, q16_3, rfl, x16_3⟩ _ ⟨g6_3, rfl, l6_3, m6_3⟩
  refine wpList_store_row rfl 27 (.tmp 6) (.tmp 16) rfl _ (elc e16_3) rfl rfl 27 _ m6_3 info26 rfl (elc_one _) ?_
  have n6_3 := setRow_heap _ _ _ (elc e16_3) _ _ m6_3
  replace hb3 := setRow_below hb3 l6_3 (elc e16_3)
  generalize hw3_1 : u3.setRow g6_3 (elc e16_3) = u3_1 at n6_3 hb3  ⊢
  clear hw3_1 m6_3
  have hO3 := (hO2).trans (hb3.mono (hO2).size)
  have m1_1__3 := block_below hb3 (lt_of_heap m1_1__2) m1_1__2
  have m2_1__3 := block_below hb3 (lt_of_heap m2_1__2) m2_1__2
  have n4_2__3 := block_below hb3 (lt_of_heap n4_2) n4_2
  have n5_2__3 := block_below hb3 (lt_of_heap n5_2) n5_2
  have lwn6_3 := Nat.le_trans (hO2).size l6_3
  have hT3 := Tab5.below hT2 hb3
  refine hK3 _ _ ?_
  clear hK3 K3
  refine wp_seq_k fun K4 hK4 => ?_
  refine wp_region_inv 9 (specs [El ((y) * (y)), El (1), El (((y) * (y)) - (1)), El (((dd) * ((y) * (y))) + (1)), El (fin (((dd) * ((y) * (y))) + (1))), El ((((y) * (y)) - (1)) * (fin (((dd) * ((y) * (y))) + (1)))), Tup2 (El (rootOf e ((((y) * (y)) - (1)) * (fin (((dd) * ((y) * (y))) + (1)))))) (Is (.bool (decide (rootOf e ((((y) * (y)) - (1)) * (fin (((dd) * ((y) * (y))) + (1)))) * rootOf e ((((y) * (y)) - (1)) * (fin (((dd) * ((y) * (y))) + (1)))) = (((y) * (y)) - (1)) * (fin (((dd) * ((y) * (y))) + (1))))))), El (rootOf e ((((y) * (y)) - (1)) * (fin (((dd) * ((y) * (y))) + (1))))), Is (.bool (decide (rootOf e ((((y) * (y)) - (1)) * (fin (((dd) * ((y) * (y))) + (1)))) * rootOf e ((((y) * (y)) - (1)) * (fin (((dd) * ((y) * (y))) + (1)))) = (((y) * (y)) - (1)) * (fin (((dd) * ((y) * (y))) + (1))))))]) (by kernel_rfl) (specs_stb ⟨El.stb _, El.stb _, El.stb _, El.stb _, El.stb _, El.stb _, Tup2.stb (El.stb _) (Is.stb _), El.stb _, Is.stb _, trivial⟩) (by kernel_rfl) ?_ ?_
  · refine ⟨fun a w hB hfr hdep => Step.plain rfl (dLoadEl q10_2 x10_2 (block_below hB (lt_of_heap n5_2__3) n5_2__3) rfl (hfr 5 (by kernel_rfl)) (fun _ h => h)),
      fun a w hB hfr hdep => Step.plain rfl (dLoadEl q7_2 x7_2 (block_below hB (lt_of_heap n4_2__3) n4_2__3) rfl (hfr 4 (by kernel_rfl)) (fun _ h => h)),
      fun a w hB hfr hdep => Step.plain rfl (Does.call 58 #[(a.eval (.tmp 17)), (a.eval (.tmp 18))] (by kernel_rfl) (cSub w w w (hdep 0 17 (by kernel_rfl)) (hdep 1 18 (by kernel_rfl)))),
      fun a w hB hfr hdep => Step.plain rfl (dLoadEl q16_3 x16_3 (block_below hB (lt_of_heap n6_3) n6_3) rfl (hfr 6 (by kernel_rfl)) (fun _ h => h)),
      fun a w hB hfr hdep => Step.plain rfl (Does.call 38 #[(a.eval (.tmp 20))] (by kernel_rfl) (cInv w w (hdep 3 20 (by kernel_rfl)))),
      fun a w hB hfr hdep => Step.plain rfl (Does.call 39 #[(a.eval (.tmp 19)), (a.eval (.tmp 21))] (by kernel_rfl) (cMul w w w (hdep 2 19 (by kernel_rfl)) (hdep 4 21 (by kernel_rfl)))),
      fun a w hB hfr hdep => Step.plain rfl (Does.call 57 #[(a.eval (.tmp 22))] (by kernel_rfl) (cRoot he w w (Tab5.below hT3 hB) (hdep 5 22 (by kernel_rfl)))),
      fun a w hB hfr hdep => Step.plain rfl (dExt0 rfl (hdep 6 23 (by kernel_rfl))),
      fun a w hB hfr hdep => Step.plain rfl (dExt1 rfl (hdep 6 23 (by kernel_rfl))), trivial⟩
  intro u4 hb4
  simp only [List.take, List.drop, FinAll, Act.put, List.setIfInBounds_toArray, List.set_cons_succ, List.set_cons_zero]
  rintro v17_4 h17_4 v18_4 h18_4 v19_4 h19_4 v20_4 h20_4 v21_4 h21_4 v22_4 h22_4 v23_4 h23_4 _ ⟨e24_4, q24_4, rfl, x24_4⟩ _ rfl
  have om2_1__3 := block_below hb4 (lt_of_heap m2_1__3) m2_1__3
  refine wpList_store_row rfl 27 (.tmp 2) (.tmp 24) rfl _ (elc e24_4) rfl rfl 27 _ om2_1__3 info26 rfl (elc_one _) ?_
  refine wpList_assign rfl rfl rfl ?_
  simp only [Act.put, Act.eval, Array.getD_eq_getD_getElem?, List.getElem?_toArray, List.getElem?_cons_succ, List.getElem?_cons_zero, Option.getD_some, List.setIfInBounds_toArray, List.set_cons_succ, List.set_cons_zero]
  have n2_4 := setRow_heap _ _ _ (elc e24_4) _ _ om2_1__3
  have hO4 := setRow_below (hO3.trans (hb4.mono (hO3).size)) lwm2_1 (elc e24_4)
  refine hK4 _ _ ?_
  clear hK4 K4
  refine wp_ret ?_
  refine bodyPost_ret (v := .tuple #[.agg (elc e24_4), _]) ?_ rfl ⟨_, rfl, hO4, ⟨_, _, rfl, ⟨_, q24_4, rfl, x24_4⟩, rfl⟩⟩
  exact results_cell_tmp Tryd.results31 _ _ _ 27 _ (0, 0) _ _ rfl rfl n2_4 Tryd.underlying27 rfl (by first | exact info26 | exact info29 | exact info35 | (rw [(Pt4.cells (by assumption)).1]; exact info29) | (rw [cellsP_size (by assumption)]; exact info29))
end Go.Proofs.YtpfcboakafbnlaaDoor
