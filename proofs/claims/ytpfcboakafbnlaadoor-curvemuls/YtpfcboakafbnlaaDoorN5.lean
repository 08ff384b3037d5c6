/-
  known; the known numbers; twiceD, Zero, Base, Add, Equal.
-/
import Derived.Test.YtpfcboakafbnlaaDoorN4
set_option linter.unusedVariables false
namespace Go.Proofs.YtpfcboakafbnlaaDoor
open Go.RowKit Go.Sort Go.BigFrame
set_option maxRecDepth 100000
set_option maxHeartbeats 2000000
theorem known47 (l : List Nat) (w : World) (hl : l.length = 32) (hd : Dig l) (hlt : valD (l.reverse) < pp) : Ret 47 #[.agg (ints .u8 l)] w (El (fe (valD (l.reverse)))) := by
  have hrl : l.reverse.length = 32 := by rw [List.length_reverse]; exact hl
  have hrd : Dig l.reverse := by
    intro j
    by_cases hj : j < l.reverse.length
    · rw [List.getD_eq_getElem?_getD, List.getElem?_eq_getElem hj, Option.getD_some, List.getElem_reverse]
      have := hd (l.length - 1 - j)
      rw [List.getD_eq_getElem?_getD, List.getElem?_eq_getElem (by rw [List.length_reverse] at hj; omega), Option.getD_some] at this
      exact this
    · rw [List.getD_eq_getElem?_getD, List.getElem?_eq_none (by omega)]; decide
  unfold Ret
  have hO0 : Below w.heap.size w w := Below.refl _ _
  go_enter Tryd.func47, Tryd.ntmps47
  refine wp_seq_k fun K1 hK1 => ?_
  refine wp_plain_inv 2 (specs [Box w.heap.size (ints .u8 l) 68, Box w.heap.size (elc zeroE) 27]) (specs_stb ⟨Box.stb _ _ _, Box.stb _ _ _, trivial⟩) (by kernel_rfl) ?_ ?_
  · refine ⟨fun a w hB hfr hdep => Step.plain rfl (dBox68 hB.size rfl (hfr 0 (by kernel_rfl)) hl),
      fun a w hB hfr hdep => Step.plain rfl (dAlloc27 hB.size rfl), trivial⟩
  intro u1 hb1
  simp only [List.take, List.drop, FinAll, Act.put, List.setIfInBounds_toArray, List.set_cons_succ, List.set_cons_zero]
  rintro _ ⟨g1_1, rfl, l1_1, m1_1⟩ _ ⟨g2_1, rfl, l2_1, m2_1⟩
  have hO1 := (hO0).trans (hb1.mono (hO0).size)
  have lwm1_1 := Nat.le_trans (hO0).size l1_1
  have lwm2_1 := Nat.le_trans (hO0).size l2_1
  refine hK1 _ _ ?_
  clear hK1 K1
  refine wp_seq_k fun K2 hK2 => ?_
  refine wp_plain_inv 7 (specs [Is (.agg (ints .u8 l)), Own u1.heap.size (l.reverse), Tup2 (El (fe (valD (l.reverse)))) (Is (.int .i64 0)), Tup2 (El (fe (valD (l.reverse)))) (Is (.int .i64 0)), El (fe (valD (l.reverse))), Is (.int .i64 0), Box u1.heap.size (elc zeroE) 27]) (specs_stb ⟨Is.stb _, Own.stb _ _, Tup2.stb (El.stb _) (Is.stb _), Tup2.stb (El.stb _) (Is.stb _), El.stb _, Is.stb _, Box.stb _ _ _, trivial⟩) (by kernel_rfl) ?_ ?_
  · refine ⟨fun a w hB hfr hdep => Step.plain rfl (dLoad68 hl (block_below hB (lt_of_heap m1_1) m1_1) rfl (hfr 1 (by kernel_rfl))),
      fun a w hB hfr hdep => Step.plain rfl (Does.call 69 #[(a.eval (.tmp 6))] (by kernel_rfl) (ownLo hB.size (cTurned w w (hdep 0 6 (by kernel_rfl)) hl))),
      fun a w hB hfr hdep => Step.plain rfl (Does.call 30 #[(a.eval (.tmp 7))] (by kernel_rfl) (cRead w (Own.bts (hdep 1 7 (by kernel_rfl)) (by omega)) hrl hrd hlt)),
      fun a w hB hfr hdep => Step.plain rfl (dMove (R := Tup2 (El (fe (valD (l.reverse)))) (Is (.int .i64 0))) rfl (hdep 2 8 (by kernel_rfl))),
      fun a w hB hfr hdep => Step.plain rfl (dExt0 rfl (hdep 3 5 (by kernel_rfl))),
      fun a w hB hfr hdep => Step.plain rfl (dExt1 rfl (hdep 3 5 (by kernel_rfl))),
      fun a w hB hfr hdep => Step.plain rfl (dAlloc27 hB.size rfl), trivial⟩
  intro u2 hb2
  simp only [List.take, List.drop, FinAll, Act.put, List.setIfInBounds_toArray, List.set_cons_succ, List.set_cons_zero]
  rintro _ rfl v7_2 h7_2 v8_2 h8_2 v5_2 h5_2 _ ⟨e9_2, q9_2, rfl, x9_2⟩ _ rfl _ ⟨g3_2, rfl, l3_2, m3_2⟩
  refine wpList_store_row rfl 27 (.tmp 3) (.tmp 9) rfl _ (elc e9_2) rfl rfl 27 _ m3_2 info26 rfl (elc_one _) ?_
  have n3_2 := setRow_heap _ _ _ (elc e9_2) _ _ m3_2
  replace hb2 := setRow_below hb2 l3_2 (elc e9_2)
  generalize hw2_1 : u2.setRow g3_2 (elc e9_2) = u2_1 at n3_2 hb2  ⊢
  clear hw2_1 m3_2
  refine wpList_assign rfl rfl rfl ?_
  simp only [Act.put, Act.eval, Array.getD_eq_getD_getElem?, List.getElem?_toArray, List.getElem?_cons_succ, List.getElem?_cons_zero, Option.getD_some, List.setIfInBounds_toArray, List.set_cons_succ, List.set_cons_zero]
  have hO2 := (hO1).trans (hb2.mono (hO1).size)
  have m1_1__2 := block_below hb2 (lt_of_heap m1_1) m1_1
  have m2_1__2 := block_below hb2 (lt_of_heap m2_1) m2_1
  have lwn3_2 := Nat.le_trans (hO1).size l3_2
  refine hK2 _ _ ?_
  clear hK2 K2
  refine wp_seq_k fun K3 hK3 => ?_
  refine wp_plain_inv 1 (specs [El (fe (valD (l.reverse)))]) (specs_stb ⟨El.stb _, trivial⟩) (by kernel_rfl) ?_ ?_
  · refine ⟨fun a w hB hfr hdep => Step.plain rfl (dLoadEl q9_2 x9_2 (block_below hB (lt_of_heap n3_2) n3_2) rfl (hfr 3 (by kernel_rfl)) (fun _ h => h)), trivial⟩
  intro u3 hb3
  simp only [List.take, List.drop, FinAll, Act.put, List.setIfInBounds_toArray, List.set_cons_succ, List.set_cons_zero]
  rintro _ ⟨e11_3, q11_3, rfl, x11_3⟩
  have om2_1__2 := block_below hb3 (lt_of_heap m2_1__2) m2_1__2
  refine wpList_store_row rfl 27 (.tmp 2) (.tmp 11) rfl _ (elc e11_3) rfl rfl 27 _ om2_1__2 info26 rfl (elc_one _) ?_
  have n2_3 := setRow_heap _ _ _ (elc e11_3) _ _ om2_1__2
  have hO3 := setRow_below (hO2.trans (hb3.mono (hO2).size)) lwm2_1 (elc e11_3)
  refine hK3 _ _ ?_
  clear hK3 K3
  refine wp_ret ?_
  refine bodyPost_ret (v := .agg (elc e11_3)) ?_ rfl ⟨_, rfl, hO3, ⟨_, q11_3, rfl, x11_3⟩⟩
  exact results_cell_row Tryd.results47 _ _ _ 27 _ (0, 0) _ rfl n2_3 Tryd.underlying27 rfl (by first | exact info26 | exact info29 | exact info35 | (rw [(Pt4.cells (by assumption)).1]; exact info29) | (rw [cellsP_size (by assumption)]; exact info29))
def tab0 : List Nat := [33, 105, 54, 211, 205, 110, 83, 254, 192, 164, 226, 49, 253, 214, 220, 92, 105, 44, 199, 96, 149, 37, 167, 178, 201, 86, 45, 96, 143, 37, 213, 26]
def tab1 : List Nat := [102, 102, 102, 102, 102, 102, 102, 102, 102, 102, 102, 102, 102, 102, 102, 102, 102, 102, 102, 102, 102, 102, 102, 102, 102, 102, 102, 102, 102, 102, 102, 88]
def tab2 : List Nat := [82, 3, 108, 238, 43, 111, 254, 115, 140, 199, 64, 121, 119, 121, 232, 152, 0, 112, 10, 77, 65, 65, 216, 171, 117, 235, 77, 202, 19, 89, 120, 163]
def tab3 : List Nat := [15, 255, 255, 255, 255, 255, 255, 255, 255, 255, 255, 255, 255, 255, 255, 255, 255, 255, 255, 255, 255, 255, 255, 255, 255, 255, 255, 255, 255, 255, 255, 254]
def tab4 : List Nat := [43, 131, 36, 128, 79, 193, 223, 11, 43, 77, 0, 153, 61, 251, 215, 167, 47, 67, 24, 6, 173, 47, 228, 120, 196, 238, 27, 39, 74, 14, 160, 176]
/-- The known numbers lie in memory. -/
structure Tab (w : World) : Prop where
  t0 : BytesAt w 0 0 tab0
  t1 : BytesAt w 1 0 tab1
  t2 : BytesAt w 2 0 tab2
structure Tab5 (w : World) : Prop extends Tab w where
  t3 : BytesAt w 3 0 tab3
  t4 : BytesAt w 4 0 tab4
theorem bytesAt_below {w w' : World} {b : Nat} {l : List Nat} (h : BytesAt w b 0 l) (h0 : 0 < l.length) (hb : Below w.heap.size w w') : BytesAt w' b 0 l := h.below hb (block_lt_of_cell (h 0 h0))
theorem Tab.below {w w' : World} (h : Tab w) (hb : Below w.heap.size w w') : Tab w' := ⟨bytesAt_below h.t0 (by decide) hb, bytesAt_below h.t1 (by decide) hb, bytesAt_below h.t2 (by decide) hb⟩
theorem Tab5.below {w w' : World} (h : Tab5 w) (hb : Below w.heap.size w w') : Tab5 w' := ⟨h.toTab.below hb, bytesAt_below h.t3 (by decide) hb, bytesAt_below h.t4 (by decide) hb⟩
theorem dLoadTab {ρ : Operand → Value} {o : Oper} {w : World} {k : Nat} {l : List Nat} (h : BytesAt w k 0 l) (hl : l.length = 32) (ho : o.op = .load 68 (.global k)) (hx : ρ (.global k) = .pointer (some ⟨k, 0, none⟩)) : Does Tryd.prog o ρ w (fun v w' => Below w.heap.size w w' ∧ Is (.agg (ints .u8 l)) v w') := by
  have hr : w.rangeAt k 0 (ints .u8 l).toList := fun j v hv => by
    have hj : j < l.length := by
      have := (List.getElem?_eq_some_iff.1 hv).1
      rwa [ints_toList_len] at this
    rw [h j hj]
    rw [ints_list] at hv
    simp [hj] at hv
    simp [hj, hv]
  have hi : (Tryd.prog.info? 68).map (·.size) = some (ints .u8 l).toList.length := by rw [ints_toList_len, hl]; exact info68
  refine Does.run _ ?_ rfl
  unfold execOp
  simp only [ho, hx, Instr.loadAt, Instr.sureAddr, Sem.run_bind, Sem.run_pure, Result.andThen_ok, run_loadVar_mid w k 0 68 (ints .u8 l).toList _ hr Tryd.underlying68 rfl hi]
theorem cKnown {v : Value} {l : List Nat} {X : Fe} (w w0 : World) (h : Is (.agg (ints .u8 l)) v w0) (hl : l.length = 32) (hd : Dig l) (hlt : valD (l.reverse) < pp) (hX : fe (valD l.reverse) = X) : Ret 47 #[v] w (El X) := by
  have h' : v = .agg (ints .u8 l) := h
  subst h' hX
  exact known47 l w hl hd hlt
theorem dig_lt {l : List Nat} (h : ∀ x ∈ l, x < 256) : Dig l := fun j => by
  by_cases hj : j < l.length
  · have := h l[j] (List.getElem_mem hj)
    simpa [hj] using this
  · rw [List.getD_eq_getElem?_getD, List.getElem?_eq_none (by omega)]; decide
theorem tab0_dig : Dig tab0 := dig_lt (by decide)
theorem tab1_dig : Dig tab1 := dig_lt (by decide)
theorem tab2_dig : Dig tab2 := dig_lt (by decide)
theorem tab3_dig : Dig tab3 := dig_lt (by decide)
theorem tab4_dig : Dig tab4 := dig_lt (by decide)
theorem tab0_val : fe (valD tab0.reverse) = bp.x := by decide
theorem tab1_val : fe (valD tab1.reverse) = bp.y := by decide
theorem tab2_val : fe (valD tab2.reverse) = dd := by decide
theorem tab4_val : fe (valD tab4.reverse) = ii := by decide
theorem cTwiceD (w : World) (hT : Tab w) : Ret 48 #[] w (El (dd + dd)) := by
  unfold Ret
  have hO0 : Below w.heap.size w w := Below.refl _ _
  go_enter Tryd.func48, Tryd.ntmps48
  refine wp_seq_k fun K1 hK1 => ?_
  refine wp_plain_inv 1 (specs [Box w.heap.size (elc zeroE) 27]) (specs_stb ⟨Box.stb _ _ _, trivial⟩) (by kernel_rfl) ?_ ?_
  · refine ⟨fun a w hB hfr hdep => Step.plain rfl (dAlloc27 hB.size rfl), trivial⟩
  intro u1 hb1
  simp only [List.take, List.drop, FinAll, Act.put, List.setIfInBounds_toArray, List.set_cons_zero]
  rintro _ ⟨g0_1, rfl, l0_1, m0_1⟩
  have hO1 := (hO0).trans (hb1.mono (hO0).size)
  have lwm0_1 := Nat.le_trans (hO0).size l0_1
  have hT1 := Tab.below hT hb1
  refine hK1 _ _ ?_
  clear hK1 K1
  refine wp_seq_k fun K2 hK2 => ?_
  refine wp_plain_inv 3 (specs [Is (.agg (ints .u8 tab2)), El (dd), Box u1.heap.size (elc zeroE) 27]) (specs_stb ⟨Is.stb _, El.stb _, Box.stb _ _ _, trivial⟩) (by kernel_rfl) ?_ ?_
  · refine ⟨fun a w hB hfr hdep => Step.plain rfl (dLoadTab (Tab.below hT1 hB).t2 rfl rfl rfl),
      fun a w hB hfr hdep => Step.plain rfl (Does.call 47 #[(a.eval (.tmp 2))] (by kernel_rfl) (cKnown w w (hdep 0 2 (by kernel_rfl)) rfl tab2_dig (by decide) tab2_val)),
      fun a w hB hfr hdep => Step.plain rfl (dAlloc27 hB.size rfl), trivial⟩
  intro u2 hb2
  simp only [List.take, List.drop, FinAll, Act.put, List.setIfInBounds_toArray, List.set_cons_succ, List.set_cons_zero]
  rintro _ rfl _ ⟨e3_2, q3_2, rfl, x3_2⟩ _ ⟨g1_2, rfl, l1_2, m1_2⟩
  refine wpList_store_row rfl 27 (.tmp 1) (.tmp 3) rfl _ (elc e3_2) rfl rfl 27 _ m1_2 info26 rfl (elc_one _) ?_
  have n1_2 := setRow_heap _ _ _ (elc e3_2) _ _ m1_2
  replace hb2 := setRow_below hb2 l1_2 (elc e3_2)
  generalize hw2_1 : u2.setRow g1_2 (elc e3_2) = u2_1 at n1_2 hb2  ⊢
  clear hw2_1 m1_2
  have hO2 := (hO1).trans (hb2.mono (hO1).size)
  have m0_1__2 := block_below hb2 (lt_of_heap m0_1) m0_1
  have lwn1_2 := Nat.le_trans (hO1).size l1_2
  have hT2 := Tab.below hT1 hb2
  refine hK2 _ _ ?_
  clear hK2 K2
  refine wp_seq_k fun K3 hK3 => ?_
  refine wp_plain_inv 3 (specs [El (dd), El (dd), El ((dd) + (dd))]) (specs_stb ⟨El.stb _, El.stb _, El.stb _, trivial⟩) (by kernel_rfl) ?_ ?_
  · refine ⟨fun a w hB hfr hdep => Step.plain rfl (dLoadEl q3_2 x3_2 (block_below hB (lt_of_heap n1_2) n1_2) rfl (hfr 1 (by kernel_rfl)) (fun _ h => h)),
      fun a w hB hfr hdep => Step.plain rfl (dLoadEl q3_2 x3_2 (block_below hB (lt_of_heap n1_2) n1_2) rfl (hfr 1 (by kernel_rfl)) (fun _ h => h)),
      fun a w hB hfr hdep => Step.plain rfl (Does.call 56 #[(a.eval (.tmp 4)), (a.eval (.tmp 5))] (by kernel_rfl) (cAdd w w w (hdep 0 4 (by kernel_rfl)) (hdep 1 5 (by kernel_rfl)))), trivial⟩
  intro u3 hb3
  simp only [List.take, List.drop, FinAll, Act.put, List.setIfInBounds_toArray, List.set_cons_succ, List.set_cons_zero]
  rintro v4_3 h4_3 v5_3 h5_3 _ ⟨e6_3, q6_3, rfl, x6_3⟩
  have om0_1__2 := block_below hb3 (lt_of_heap m0_1__2) m0_1__2
  refine wpList_store_row rfl 27 (.tmp 0) (.tmp 6) rfl _ (elc e6_3) rfl rfl 27 _ om0_1__2 info26 rfl (elc_one _) ?_
  have n0_3 := setRow_heap _ _ _ (elc e6_3) _ _ om0_1__2
  have hO3 := setRow_below (hO2.trans (hb3.mono (hO2).size)) lwm0_1 (elc e6_3)
  refine hK3 _ _ ?_
  clear hK3 K3
  refine wp_ret ?_
  refine bodyPost_ret (v := .agg (elc e6_3)) ?_ rfl ⟨_, rfl, hO3, ⟨_, q6_3, rfl, x6_3⟩⟩
  exact results_cell_row Tryd.results48 _ _ _ 27 _ (0, 0) _ rfl n0_3 Tryd.underlying27 rfl (by first | exact info26 | exact info29 | exact info35 | (rw [(Pt4.cells (by assumption)).1]; exact info29) | (rw [cellsP_size (by assumption)]; exact info29))
theorem cZero (w : World) : Ret 25 #[] w (PtV Pt.zero) := by
  unfold Ret
  have hO0 : Below w.heap.size w w := Below.refl _ _
  go_enter Tryd.func25, Tryd.ntmps25
  refine wp_seq_k fun K1 hK1 => ?_
  refine wp_plain_inv 1 (specs [Box w.heap.size (ptc zeroE zeroE zeroE zeroE) 29]) (specs_stb ⟨Box.stb _ _ _, trivial⟩) (by kernel_rfl) ?_ ?_
  · refine ⟨fun a w hB hfr hdep => Step.plain rfl (dAlloc29 hB.size rfl), trivial⟩
  intro u1 hb1
  simp only [List.take, List.drop, FinAll, Act.put, List.setIfInBounds_toArray, List.set_cons_zero]
  rintro _ ⟨g0_1, rfl, l0_1, m0_1⟩
  have hO1 := (hO0).trans (hb1.mono (hO0).size)
  have lwm0_1 := Nat.le_trans (hO0).size l0_1
  refine hK1 _ _ ?_
  clear hK1 K1
  refine wp_seq_k fun K2 hK2 => ?_
  refine wp_plain_inv 3 (specs [El (0), El (1), Pt4 (0) (1) (1) ((0) * (1))]) (specs_stb ⟨El.stb _, El.stb _, Pt4.stb _ _ _ _, trivial⟩) (by kernel_rfl) ?_ ?_
  · refine ⟨fun a w hB hfr hdep => Step.plain rfl (Does.call 53 #[.int .i64 0] (by kernel_rfl) (cInt0 w)),
      fun a w hB hfr hdep => Step.plain rfl (Does.call 53 #[.int .i64 1] (by kernel_rfl) (cInt1 w)),
      fun a w hB hfr hdep => Step.plain rfl (Does.call 34 #[(a.eval (.tmp 1)), (a.eval (.tmp 2))] (by kernel_rfl) (cOfPair w w w (hdep 0 1 (by kernel_rfl)) (hdep 1 2 (by kernel_rfl)))), trivial⟩
  intro u2 hb2
  simp only [List.take, List.drop, FinAll, Act.put, List.setIfInBounds_toArray, List.set_cons_succ, List.set_cons_zero]
  rintro v1_2 h1_2 v2_2 h2_2 _ ⟨e3_2, rfl, x3_2⟩
  have om0_1 := block_below hb2 (lt_of_heap m0_1) m0_1
  refine wpList_store_row rfl 29 (.tmp 0) (.tmp 3) rfl _ (e3_2) rfl rfl 29 _ om0_1 (by rw [(Pt4.cells x3_2).1]; exact info29) (by rw [(Pt4.cells x3_2).1]; rfl) (Pt4.cells x3_2).2 ?_
  have n0_2 := setRow_heap _ _ _ (e3_2) _ _ om0_1
  have hO2 := setRow_below (hO1.trans (hb2.mono (hO1).size)) lwm0_1 (e3_2)
  refine hK2 _ _ ?_
  clear hK2 K2
  refine wp_ret ?_
  refine bodyPost_ret (v := .agg (e3_2)) ?_ rfl ⟨_, rfl, hO2, ⟨_, rfl, _, _, _, _, x3_2, rep_aff Pt.zero⟩⟩
  exact results_cell_row Tryd.results25 _ _ _ 29 _ (0, 0) _ rfl n0_2 Tryd.underlying29 rfl (by first | exact info26 | exact info29 | exact info35 | (rw [(Pt4.cells (by assumption)).1]; exact info29) | (rw [cellsP_size (by assumption)]; exact info29))
theorem cBase (w : World) (hT : Tab w) : Ret 16 #[] w (PtV bp) := by
  unfold Ret
  have hO0 : Below w.heap.size w w := Below.refl _ _
  go_enter Tryd.func16, Tryd.ntmps16
  refine wp_seq_k fun K1 hK1 => ?_
  refine wp_plain_inv 1 (specs [Box w.heap.size (ptc zeroE zeroE zeroE zeroE) 29]) (specs_stb ⟨Box.stb _ _ _, trivial⟩) (by kernel_rfl) ?_ ?_
  · refine ⟨fun a w hB hfr hdep => Step.plain rfl (dAlloc29 hB.size rfl), trivial⟩
  intro u1 hb1
  simp only [List.take, List.drop, FinAll, Act.put, List.setIfInBounds_toArray, List.set_cons_zero]
  rintro _ ⟨g0_1, rfl, l0_1, m0_1⟩
  have hO1 := (hO0).trans (hb1.mono (hO0).size)
  have lwm0_1 := Nat.le_trans (hO0).size l0_1
  have hT1 := Tab.below hT hb1
  refine hK1 _ _ ?_
  clear hK1 K1
  refine wp_seq_k fun K2 hK2 => ?_
  refine wp_region_inv 5 (specs [Is (.agg (ints .u8 tab0)), El (bp.x), Is (.agg (ints .u8 tab1)), El (bp.y), Pt4 (bp.x) (bp.y) (1) ((bp.x) * (bp.y))]) (by kernel_rfl) (specs_stb ⟨Is.stb _, El.stb _, Is.stb _, El.stb _, Pt4.stb _ _ _ _, trivial⟩) (by kernel_rfl) ?_ ?_
  · refine ⟨fun a w hB hfr hdep => Step.plain rfl (dLoadTab (Tab.below hT1 hB).t0 rfl rfl rfl),
      fun a w hB hfr hdep => Step.plain rfl (Does.call 47 #[(a.eval (.tmp 1))] (by kernel_rfl) (cKnown w w (hdep 0 1 (by kernel_rfl)) rfl tab0_dig (by decide) tab0_val)),
      fun a w hB hfr hdep => Step.plain rfl (dLoadTab (Tab.below hT1 hB).t1 rfl rfl rfl),
      fun a w hB hfr hdep => Step.plain rfl (Does.call 47 #[(a.eval (.tmp 3))] (by kernel_rfl) (cKnown w w (hdep 2 3 (by kernel_rfl)) rfl tab1_dig (by decide) tab1_val)),
      fun a w hB hfr hdep => Step.plain rfl (Does.call 34 #[(a.eval (.tmp 2)), (a.eval (.tmp 4))] (by kernel_rfl) (cOfPair w w w (hdep 1 2 (by kernel_rfl)) (hdep 3 4 (by kernel_rfl)))), trivial⟩
  intro u2 hb2
  simp only [List.take, List.drop, FinAll, Act.put, List.setIfInBounds_toArray, List.set_cons_succ, List.set_cons_zero]
  rintro _ rfl v2_2 h2_2 _ rfl v4_2 h4_2 _ ⟨e5_2, rfl, x5_2⟩
  have om0_1 := block_below hb2 (lt_of_heap m0_1) m0_1
  refine wpList_store_row rfl 29 (.tmp 0) (.tmp 5) rfl _ (e5_2) rfl rfl 29 _ om0_1 (by rw [(Pt4.cells x5_2).1]; exact info29) (by rw [(Pt4.cells x5_2).1]; rfl) (Pt4.cells x5_2).2 ?_
  have n0_2 := setRow_heap _ _ _ (e5_2) _ _ om0_1
  have hO2 := setRow_below (hO1.trans (hb2.mono (hO1).size)) lwm0_1 (e5_2)
  refine hK2 _ _ ?_
  clear hK2 K2
  refine wp_ret ?_
  refine bodyPost_ret (v := .agg (e5_2)) ?_ rfl ⟨_, rfl, hO2, ⟨_, rfl, _, _, _, _, x5_2, rep_aff bp⟩⟩
  exact results_cell_row Tryd.results16 _ _ _ 29 _ (0, 0) _ rfl n0_2 Tryd.underlying29 rfl (by first | exact info26 | exact info29 | exact info35 | (rw [(Pt4.cells (by assumption)).1]; exact info29) | (rw [cellsP_size (by assumption)]; exact info29))
theorem cPAdd {p q : Pt} {v1 v2 : Value} (w w0 w1 : World) (hT : Tab w) (h1 : PtV p v1 w0) (h2 : PtV q v2 w1) : Ret 19 #[v1, v2] w (PtV (p.add q)) := by
  obtain ⟨cs1, rfl, hp1⟩ := h1
  obtain ⟨cs2, rfl, hp2⟩ := h2
  obtain ⟨X1, Y1, Z1, T1, h41, hr1⟩ := id hp1
  obtain ⟨X2, Y2, Z2, T2, h42, hr2⟩ := id hp2
  unfold Ret
  have hO0 : Below w.heap.size w w := Below.refl _ _
  go_enter Tryd.func19, Tryd.ntmps19
  refine wp_seq_k fun K1 hK1 => ?_
  refine wp_plain_inv 3 (specs [Box w.heap.size (cs1) 29, Box w.heap.size (cs2) 29, Box w.heap.size (ptc zeroE zeroE zeroE zeroE) 29]) (specs_stb ⟨Box.stb _ _ _, Box.stb _ _ _, Box.stb _ _ _, trivial⟩) (by kernel_rfl) ?_ ?_
  · refine ⟨fun a w hB hfr hdep => Step.plain rfl (dBox29 hB.size rfl (hfr 0 (by kernel_rfl)) h41),
      fun a w hB hfr hdep => Step.plain rfl (dBox29 hB.size rfl (hfr 1 (by kernel_rfl)) h42),
      fun a w hB hfr hdep => Step.plain rfl (dAlloc29 hB.size rfl), trivial⟩
  intro u1 hb1
  simp only [List.take, List.drop, FinAll, Act.put, List.setIfInBounds_toArray, List.set_cons_succ, List.set_cons_zero]
  rintro _ ⟨g2_1, rfl, l2_1, m2_1⟩ _ ⟨g3_1, rfl, l3_1, m3_1⟩ _ ⟨g4_1, rfl, l4_1, m4_1⟩
  have hO1 := (hO0).trans (hb1.mono (hO0).size)
  have lwm2_1 := Nat.le_trans (hO0).size l2_1
  have lwm3_1 := Nat.le_trans (hO0).size l3_1
  have lwm4_1 := Nat.le_trans (hO0).size l4_1
  have hT1 := Tab.below hT hb1
  refine hK1 _ _ ?_
  clear hK1 K1
  refine wp_seq_k fun K2 hK2 => ?_
  refine wp_region_inv 4 (specs [PtV (p), PtV (q), El (dd + dd), PtV ((p).add (q))]) (by kernel_rfl) (specs_stb ⟨PtV.stb _, PtV.stb _, El.stb _, PtV.stb _, trivial⟩) (by kernel_rfl) ?_ ?_
  · refine ⟨fun a w hB hfr hdep => Step.plain rfl (dLoadPt hp1 (block_below hB (lt_of_heap m2_1) m2_1) rfl (hfr 2 (by kernel_rfl)) (fun _ h => h)),
      fun a w hB hfr hdep => Step.plain rfl (dLoadPt hp2 (block_below hB (lt_of_heap m3_1) m3_1) rfl (hfr 3 (by kernel_rfl)) (fun _ h => h)),
      fun a w hB hfr hdep => Step.plain rfl (Does.call 48 #[] (by kernel_rfl) (cTwiceD w (Tab.below hT1 hB))),
      fun a w hB hfr hdep => Step.plain rfl (Does.call 49 #[(a.eval (.tmp 5)), (a.eval (.tmp 6)), (a.eval (.tmp 7))] (by kernel_rfl) (cPlus w w w w (hdep 0 5 (by kernel_rfl)) (hdep 1 6 (by kernel_rfl)) (hdep 2 7 (by kernel_rfl)))), trivial⟩
  intro u2 hb2
  simp only [List.take, List.drop, FinAll, Act.put, List.setIfInBounds_toArray, List.set_cons_succ, List.set_cons_zero]
  rintro v5_2 h5_2 v6_2 h6_2 v7_2 h7_2 _ ⟨e8_2, rfl, x8_2⟩
  have om4_1 := block_below hb2 (lt_of_heap m4_1) m4_1
  refine wpList_store_row rfl 29 (.tmp 4) (.tmp 8) rfl _ (e8_2) rfl rfl 29 _ om4_1 (by rw [cellsP_size x8_2]; exact info29) (by rw [cellsP_size x8_2]; rfl) (cellsP_one x8_2) ?_
  have n4_2 := setRow_heap _ _ _ (e8_2) _ _ om4_1
  have hO2 := setRow_below (hO1.trans (hb2.mono (hO1).size)) lwm4_1 (e8_2)
  refine hK2 _ _ ?_
  clear hK2 K2
  refine wp_ret ?_
  refine bodyPost_ret (v := .agg (e8_2)) ?_ rfl ⟨_, rfl, hO2, ⟨_, rfl, x8_2⟩⟩
  exact results_cell_row Tryd.results19 _ _ _ 29 _ (0, 0) _ rfl n4_2 Tryd.underlying29 rfl (by first | exact info26 | exact info29 | exact info35 | (rw [(Pt4.cells (by assumption)).1]; exact info29) | (rw [cellsP_size (by assumption)]; exact info29))
end Go.Proofs.YtpfcboakafbnlaaDoor
