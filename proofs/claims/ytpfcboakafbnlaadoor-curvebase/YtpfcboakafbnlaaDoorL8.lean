/-
  The walk of CurveBase.
-/
import Derived.Test.YtpfcboakafbnlaaDoorSM
set_option linter.unusedVariables false
namespace Go.Proofs.YtpfcboakafbnlaaDoor
open Go.RowKit Go.Sort Go.BigFrame
set_option maxRecDepth 100000
set_option maxHeartbeats 2000000
theorem LN_lt : LN < 256 ^ 32 := by decide
theorem valLN : valD (digs 32 LN) = LN := valD_digs_lt LN_lt
theorem LN_0 : (digs 32 LN).getD 0 0 = 237 := by decide
theorem LN_back : (digs 32 LN).set 0 236 = digs 32 (LN - 1) := by decide
theorem valLB : valD (digs 32 (LN - 1)) = LN - 1 := valD_digs_lt (by decide)
theorem btsRow {v : Value} {g cap n : Nat} {cur : Array Value} {w : World} {l : List Nat} (hl : l.length = 32) (hv : v = .slice (some ⟨g, 0, none⟩) 32 cap) (h : w.heap[g]? = some (.cells cur 5 (0, 0))) (hc : 32 ≤ cap) (hc2 : cap ≤ 9223372036854775807) (hcur : ∀ i, i < 32 → cur[i]? = some (.int .u8 ((l.getD i 0 : Nat) : Int))) : Bts l v w := by
  subst hv
  exact ⟨_, _, by rw [hl], by rw [hl]; exact hc, hc2, fun _ => ⟨g, 0, rfl, bytesAt_cur h (by rw [hl]; exact hcur)⟩⟩
theorem run_eq5F {ρ : Operand → Value} {o : Oper} {x y : Operand} {w : World} {n : Nat} (hn : n ≠ 0) (ho : o.op = .binOp .eql 5 x y 5) (hx : ρ x = .int .u8 (n : Int)) (hy : ρ y = .int .u8 0) : (execOp ρ o).run Tryd.prog w = .ok (.value (.bool false)) w := by
  have h' : ((n : Int) == 0) = false := by simp; omega
  simp [execOp, ho, hx, hy, go_sem]
  omega
theorem curveBase5Z (w : World) (hT : Tab w) : Ret 5 #[.int .u8 0] w (Is (.bool true)) := by
  have hq1 : (bp).nm (valD (digs 32 LN)) = Pt.zero := by rw [valLN]; exact bp_L
  have hq2 : (bp).nm (valD (digs 32 (LN - 1))) = (bp).neg := by rw [valLB]; exact bp_back (by decide)
  have hq3 : ((bp).nm (valD (digs 32 LN))).add ((bp).nm (valD ([0]))) = (bp).nm (valD ([0])) := by rw [hq1]; exact Pt.zero_add _
  have hq4 : (bp).nm (valD ([0])) = Pt.zero := Pt.nm_zero bp
  unfold Ret
  have hO0 : Below w.heap.size w w := Below.refl _ _
  go_enter Tryd.func5, Tryd.ntmps5
  refine wp_seq_k fun K1 hK1 => ?_
  refine wp_plain_inv 1 (specs [Is (.bool false)]) (specs_stb ⟨Is.stb _, trivial⟩) (by kernel_rfl) ?_ ?_
  · refine ⟨fun a w hB hfr hdep => Step.plain rfl (dAssign (R := Is (.bool false)) rfl rfl), trivial⟩
  intro u1 hb1
  simp only [List.take, List.drop, FinAll, Act.put, List.setIfInBounds_toArray, List.set_cons_succ, List.set_cons_zero]
  rintro _ rfl
  have hO1 := (hO0).trans (hb1.mono (hO0).size)
  have hT1 := Tab.below hT hb1
  refine hK1 _ _ ?_
  clear hK1 K1
  refine wp_seq_k fun K2 hK2 => ?_
  refine wp_plain_inv 3 (specs [DRow (digs 32 LN), OwnC u1.heap.size (digs 32 LN), OwnC u1.heap.size (digs 32 LN)]) (specs_stb ⟨DRow.stb _, OwnC.stb _ _, OwnC.stb _ _, trivial⟩) (by kernel_rfl) ?_ ?_
  · refine ⟨fun a w hB hfr hdep => Step.plain rfl (Does.call 22 #[] (by kernel_rfl) (rL w)),
      fun a w hB hfr hdep => Step.plain rfl (Does.call 21 #[(a.eval (.tmp 9))] (by kernel_rfl) (ownCLo hB.size (rBytes valLN w (hdep 0 9 (by kernel_rfl)) (by rw [digs_len]; omega) (digs_dig _ _)))),
      fun a w hB hfr hdep => Step.plain rfl (dAssign (R := OwnC u1.heap.size (digs 32 LN)) rfl (hdep 1 10 (by kernel_rfl))), trivial⟩
  intro u2 hb2
  simp only [List.take, List.drop, FinAll, Act.put, List.setIfInBounds_toArray, List.set_cons_succ, List.set_cons_zero]
  rintro v9_2 h9_2 v10_2 h10_2 v3_2 h3_2
  have hO2 := (hO1).trans (hb2.mono (hO1).size)
  have hT2 := Tab.below hT1 hb2
  refine hK2 _ _ ?_
  clear hK2 K2
  obtain ⟨g3, cap3, cur3, hv3, hl3, hrow3, hc3, hc3', hcur⟩ := h3_2
  rw [digs_len] at hv3 hc3 hcur
  subst hv3
  have hlow3 : w.heap.size ≤ g3 := Nat.le_trans hO1.size hl3
  have hg3 := lt_of_heap hrow3
  refine wp_seq_k fun K3 hK3 => ?_
  refine wp_plain_inv 2 (specs [PtV (bp), Box u2.heap.size (ptc zeroE zeroE zeroE zeroE) 29]) (specs_stb ⟨PtV.stb _, Box.stb _ _ _, trivial⟩) (by kernel_rfl) ?_ ?_
  · refine ⟨fun a w hB hfr hdep => Step.plain rfl (Does.call 16 #[] (by kernel_rfl) (cBase w (Tab.below hT2 hB))),
      fun a w hB hfr hdep => Step.plain rfl (dAlloc29 hB.size rfl), trivial⟩
  intro u3 hb3
  simp only [List.take, List.drop, FinAll, Act.put, List.setIfInBounds_toArray, List.set_cons_succ, List.set_cons_zero]
  rintro _ ⟨e11_3, rfl, x11_3⟩ _ ⟨g4_3, rfl, l4_3, m4_3⟩
  refine wpList_store_row rfl 29 (.tmp 4) (.tmp 11) rfl _ (e11_3) rfl rfl 29 _ m4_3 (by rw [cellsP_size x11_3]; exact info29) (by rw [cellsP_size x11_3]; rfl) (cellsP_one x11_3) ?_
  have n4_3 := setRow_heap _ _ _ (e11_3) _ _ m4_3
  replace hb3 := setRow_below hb3 l4_3 (e11_3)
  generalize hw3_1 : u3.setRow g4_3 (e11_3) = u3_1 at n4_3 hb3  ⊢
  clear hw3_1 m4_3
  have hO3 := (hO2).trans (hb3.mono (hO2).size)
  have hrow3__3 := block_below hb3 (lt_of_heap hrow3) hrow3
  have lwn4_3 := Nat.le_trans (hO2).size l4_3
  have hT3 := Tab.below hT2 hb3
  refine hK3 _ _ ?_
  clear hK3 K3
  refine wp_seq_k fun K4 hK4 => ?_
  refine wp_region_inv 8 (specs [PtV (bp), Own u3_1.heap.size (digs 32 (Pt.enc (bp))), Is (.string (strOf (digs 32 (Pt.enc (bp))))), RPt ((bp).x) ((bp).y), OwnC u3_1.heap.size (digs 32 (Pt.enc (bp))), Is (.string (strOf (digs 32 (Pt.enc (bp))))), Is (.bool true), Is (.bool true)]) (by kernel_rfl) (specs_stb ⟨PtV.stb _, Own.stb _ _, Is.stb _, RPt.stb _ _, OwnC.stb _ _, Is.stb _, Is.stb _, Is.stb _, trivial⟩) (by kernel_rfl) ?_ ?_
  · refine ⟨fun a w hB hfr hdep => Step.plain rfl (dLoadPt x11_3 (block_below hB (lt_of_heap n4_3) n4_3) rfl (hfr 4 (by kernel_rfl)) (fun _ h => h)),
      fun a w hB hfr hdep => Step.plain rfl (Does.call 14 #[(a.eval (.tmp 12))] (by kernel_rfl) (ownLo hB.size (cPBytes w w (hdep 0 12 (by kernel_rfl))))),
      fun a w hB hfr hdep => Step.plain rfl (dConvOwn rfl (hdep 1 13 (by kernel_rfl))),
      fun a w hB hfr hdep => Step.plain rfl (Does.call 23 #[] (by kernel_rfl) (rBase w)),
      fun a w hB hfr hdep => Step.plain rfl (Does.call 20 #[(a.eval (.tmp 15))] (by kernel_rfl) (ownCLo hB.size (rPBytes w (hdep 3 15 (by kernel_rfl))))),
      fun a w hB hfr hdep => Step.plain rfl (dConvBts rfl (OwnC.bts (hdep 4 16 (by kernel_rfl)))),
      fun a w hB hfr hdep => Step.plain rfl (Does.run _ (run_eqStrB (str_refl _) rfl (hdep 2 14 (by kernel_rfl)) (hdep 5 17 (by kernel_rfl))) rfl),
      fun a w hB hfr hdep => Step.plain rfl (dAssign (R := Is (.bool true)) rfl (hdep 6 18 (by kernel_rfl))), trivial⟩
  intro u4 hb4
  simp only [List.take, List.drop, FinAll, Act.put, List.setIfInBounds_toArray, List.set_cons_succ, List.set_cons_zero]
  rintro v12_4 h12_4 v13_4 h13_4 _ rfl v15_4 h15_4 v16_4 h16_4 _ rfl _ rfl _ rfl
  have hO4 := (hO3).trans (hb4.mono (hO3).size)
  have hrow3__4 := block_below hb4 (lt_of_heap hrow3__3) hrow3__3
  have n4_3__4 := block_below hb4 (lt_of_heap n4_3) n4_3
  have hT4 := Tab.below hT3 hb4
  refine hK4 _ _ ?_
  clear hK4 K4
  refine wp_seq_k fun K5 hK5 => ?_
  refine wp_plain_inv 4 (specs [PtV (bp), Is (.slice (some ⟨g3, 0, none⟩) 32 cap3), PtV ((bp).nm (valD (digs 32 LN))), Box u4.heap.size (ptc zeroE zeroE zeroE zeroE) 29]) (specs_stb ⟨PtV.stb _, Is.stb _, PtV.stb _, Box.stb _ _ _, trivial⟩) (by kernel_rfl) ?_ ?_
  · refine ⟨fun a w hB hfr hdep => Step.plain rfl (dLoadPt x11_3 (block_below hB (lt_of_heap n4_3__4) n4_3__4) rfl (hfr 4 (by kernel_rfl)) (fun _ h => h)),
      fun a w hB hfr hdep => Step.plain rfl (dMove (R := Is (.slice (some ⟨g3, 0, none⟩) 32 cap3)) rfl (hfr 3 (by kernel_rfl))),
      fun a w hB hfr hdep => Step.plain rfl (Does.call 17 #[(a.eval (.tmp 19)), (a.eval (.tmp 20))] (by kernel_rfl) (cMulP w w (Tab.below hT4 hB) (hdep 0 19 (by kernel_rfl)) (btsRow (n := 0) (digs_len _ _) (hdep 1 20 (by kernel_rfl)) (block_below hB (lt_of_heap hrow3__4) hrow3__4) hc3 hc3' hcur) (digs_dig _ _) (by rw [digs_len]; omega))),
      fun a w hB hfr hdep => Step.plain rfl (dAlloc29 hB.size rfl), trivial⟩
  intro u5 hb5
  simp only [List.take, List.drop, FinAll, Act.put, List.setIfInBounds_toArray, List.set_cons_succ, List.set_cons_zero]
  rintro v19_5 h19_5 _ rfl _ ⟨e21_5, rfl, x21_5⟩ _ ⟨g6_5, rfl, l6_5, m6_5⟩
  refine wpList_store_row rfl 29 (.tmp 6) (.tmp 21) rfl _ (e21_5) rfl rfl 29 _ m6_5 (by rw [cellsP_size x21_5]; exact info29) (by rw [cellsP_size x21_5]; rfl) (cellsP_one x21_5) ?_
  have n6_5 := setRow_heap _ _ _ (e21_5) _ _ m6_5
  replace hb5 := setRow_below hb5 l6_5 (e21_5)
  generalize hw5_1 : u5.setRow g6_5 (e21_5) = u5_1 at n6_5 hb5  ⊢
  clear hw5_1 m6_5
  have hO5 := (hO4).trans (hb5.mono (hO4).size)
  have hrow3__5 := block_below hb5 (lt_of_heap hrow3__4) hrow3__4
  have n4_3__5 := block_below hb5 (lt_of_heap n4_3__4) n4_3__4
  have lwn6_5 := Nat.le_trans (hO4).size l6_5
  have hT5 := Tab.below hT4 hb5
  refine hK5 _ _ ?_
  clear hK5 K5
  have c0 := cell_of_row _ g3 0 _ _ _ hrow3__5
  rw [hcur 0 (by omega), LN_0] at c0
  have f0 := frozen_of_row _ g3 0 _ _ hrow3__5
  have hst := cur_set hrow3__5 (by rw [digs_len]; exact hcur) 0 236 (by rw [digs_len]; omega)
  rw [LN_back, digs_len] at hst
  have hOs := (hO5).setCell (p := ⟨g3, 0, none⟩) hlow3 (.int .u8 236)
  have n4 : g4_3 ≠ g3 := by have := hb3.size; have := hb4.size; have := hb5.size; omega
  have n6 : g6_5 ≠ g3 := by have := hb3.size; have := hb4.size; have := hb5.size; omega
  have hz4 := (heap_setCell_other u5_1 ⟨g3, 0, none⟩ g4_3 (.int .u8 236) n4).trans n4_3__5
  have hz6 := (heap_setCell_other u5_1 ⟨g3, 0, none⟩ g6_5 (.int .u8 236) n6).trans n6_5
  have hTs : Tab (u5_1.setCell ⟨g3, 0, none⟩ (.int .u8 236)) := hT5.setCell (by show 2 < g3; have := hT.size; omega)
  have HOS : Hid _ := hOs
  have HZ4 : Hid _ := hz4
  have HZ6 : Hid _ := hz6
  have HTS : Hid _ := hTs
  have HST : Hid _ := hst
  clear hOs hz4 hz6 hTs hst
  simp only [Int.cast_ofNat_Int] at c0
  refine wp_seq_k fun KB hKB => ?_
  have HKB : Hid _ := hKB
  clear hKB
  go_wp2
  refine HKB.out _ _ ?_
  clear HKB KB
  have hO := HOS.out
  have hz4 := HZ4.out
  have hz6 := HZ6.out
  have hT9 := HTS.out
  have hst := HST.out.1
  have hcur2 := HST.out.2
  clear HOS HZ4 HZ6 HTS HST c0 f0
  simp only [Int.cast_ofNat_Int] at hst hcur2
  obtain ⟨cur5, hcur5⟩ : ∃ c, c = cur3.setIfInBounds 0 (.int .u8 236) := ⟨_, rfl⟩
  rw [← hcur5] at hst hcur2
  generalize u5_1.setCell ⟨g3, 0, none⟩ (.int .u8 236) = uu at hO hz4 hz6 hT9 hst ⊢
  refine wp_seq_k fun K6 hK6 => ?_
  refine wp_plain_inv 4 (specs [PtV (bp), Is (.slice (some ⟨g3, 0, none⟩) 32 cap3), PtV ((bp).nm (valD (digs 32 (LN - 1)))), Box uu.heap.size (ptc zeroE zeroE zeroE zeroE) 29]) (specs_stb ⟨PtV.stb _, Is.stb _, PtV.stb _, Box.stb _ _ _, trivial⟩) (by kernel_rfl) ?_ ?_
  · refine ⟨fun a w hB hfr hdep => Step.plain rfl (dLoadPt x11_3 (block_below hB (lt_of_heap hz4) hz4) rfl (hfr 4 (by kernel_rfl)) (fun _ h => h)),
      fun a w hB hfr hdep => Step.plain rfl (dMove (R := Is (.slice (some ⟨g3, 0, none⟩) 32 cap3)) rfl (hfr 3 (by kernel_rfl))),
      fun a w hB hfr hdep => Step.plain rfl (Does.call 17 #[(a.eval (.tmp 28)), (a.eval (.tmp 29))] (by kernel_rfl) (cMulP w w (Tab.below hT9 hB) (hdep 0 28 (by kernel_rfl)) (btsRow (n := 0) (digs_len _ _) (hdep 1 29 (by kernel_rfl)) (block_below hB (lt_of_heap hst) hst) hc3 hc3' hcur2) (digs_dig _ _) (by rw [digs_len]; omega))),
      fun a w hB hfr hdep => Step.plain rfl (dAlloc29 hB.size rfl), trivial⟩
  intro u6 hb6
  simp only [List.take, List.drop, FinAll, Act.put, List.setIfInBounds_toArray, List.set_cons_succ, List.set_cons_zero]
  rintro v28_6 h28_6 _ rfl _ ⟨e30_6, rfl, x30_6⟩ _ ⟨g7_6, rfl, l7_6, m7_6⟩
  refine wpList_store_row rfl 29 (.tmp 7) (.tmp 30) rfl _ (e30_6) rfl rfl 29 _ m7_6 (by rw [cellsP_size x30_6]; exact info29) (by rw [cellsP_size x30_6]; rfl) (cellsP_one x30_6) ?_
  have n7_6 := setRow_heap _ _ _ (e30_6) _ _ m7_6
  replace hb6 := setRow_below hb6 l7_6 (e30_6)
  generalize hw6_1 : u6.setRow g7_6 (e30_6) = u6_1 at n7_6 hb6  ⊢
  clear hw6_1 m7_6
  have hO6 := (hO).trans (hb6.mono (hO).size)
  have hz4__6 := block_below hb6 (lt_of_heap hz4) hz4
  have hz6__6 := block_below hb6 (lt_of_heap hz6) hz6
  have hst__6 := block_below hb6 (lt_of_heap hst) hst
  have lwn7_6 := Nat.le_trans (hO).size l7_6
  have hT6 := Tab.below hT9 hb6
  refine hK6 _ _ ?_
  clear hK6 K6
  refine wp_seq_k fun K7 hK7 => ?_
  refine wp_plain_inv 5 (specs [PtV (bp), Is (.int .u8 0), Own u6_1.heap.size ([0]), PtV ((bp).nm (valD ([0]))), Box u6_1.heap.size (ptc zeroE zeroE zeroE zeroE) 29]) (specs_stb ⟨PtV.stb _, Is.stb _, Own.stb _ _, PtV.stb _, Box.stb _ _ _, trivial⟩) (by kernel_rfl) ?_ ?_
  · refine ⟨fun a w hB hfr hdep => Step.plain rfl (dLoadPt x11_3 (block_below hB (lt_of_heap hz4__6) hz4__6) rfl (hfr 4 (by kernel_rfl)) (fun _ h => h)),
      fun a w hB hfr hdep => Step.plain rfl (dMove (R := Is (.int .u8 0)) rfl (hfr 0 (by kernel_rfl))),
      fun a w hB hfr hdep => Step.plain rfl (dSlice1 hB.size rfl (hdep 1 32 (by kernel_rfl))),
      fun a w hB hfr hdep => Step.plain rfl (Does.call 17 #[(a.eval (.tmp 31)), (a.eval (.tmp 33))] (by kernel_rfl) (cMulP w w (Tab.below hT6 hB) (hdep 0 31 (by kernel_rfl)) (Own.bts (hdep 2 33 (by kernel_rfl)) (by first | decide | (rw [digs_len]; omega) | simp)) (dig_lt (by decide)) (by first | decide | (rw [digs_len]; omega) | simp))),
      fun a w hB hfr hdep => Step.plain rfl (dAlloc29 hB.size rfl), trivial⟩
  intro u7 hb7
  simp only [List.take, List.drop, FinAll, Act.put, List.setIfInBounds_toArray, List.set_cons_succ, List.set_cons_zero]
  rintro v31_7 h31_7 _ rfl v33_7 h33_7 _ ⟨e34_7, rfl, x34_7⟩ _ ⟨g8_7, rfl, l8_7, m8_7⟩
  refine wpList_store_row rfl 29 (.tmp 8) (.tmp 34) rfl _ (e34_7) rfl rfl 29 _ m8_7 (by rw [cellsP_size x34_7]; exact info29) (by rw [cellsP_size x34_7]; rfl) (cellsP_one x34_7) ?_
  have n8_7 := setRow_heap _ _ _ (e34_7) _ _ m8_7
  replace hb7 := setRow_below hb7 l8_7 (e34_7)
  generalize hw7_1 : u7.setRow g8_7 (e34_7) = u7_1 at n8_7 hb7  ⊢
  clear hw7_1 m8_7
  have hO7 := (hO6).trans (hb7.mono (hO6).size)
  have hz4__7 := block_below hb7 (lt_of_heap hz4__6) hz4__6
  have hz6__7 := block_below hb7 (lt_of_heap hz6__6) hz6__6
  have hst__7 := block_below hb7 (lt_of_heap hst__6) hst__6
  have n7_6__7 := block_below hb7 (lt_of_heap n7_6) n7_6
  have lwn8_7 := Nat.le_trans (hO6).size l8_7
  have hT7 := Tab.below hT6 hb7
  refine hK7 _ _ ?_
  clear hK7 K7
  refine wp_seq_k fun K8 hK8 => ?_
  refine wp_region_inv 31 (specs [Is (.bool true), Is (.bool true), PtV ((bp).nm (valD (digs 32 LN))), PtV (Pt.zero), Is (.bool true), Is (.bool true), Is (.bool true), PtV ((bp).nm (valD (digs 32 (LN - 1)))), PtV (bp), PtV ((bp).neg), Is (.bool true), Is (.bool true), Is (.bool true), PtV ((bp).nm (valD (digs 32 LN))), PtV ((bp).nm (valD ([0]))), PtV (((bp).nm (valD (digs 32 LN))).add ((bp).nm (valD ([0])))), PtV ((bp).nm (valD ([0]))), Is (.bool true), Is (.bool true), Is (.bool true), Is (.int .u8 0), Is (.bool true), PtV ((bp).nm (valD ([0]))), PtV (Pt.zero), Is (.bool true), Is (.bool true), Is (.bool true), Is (.bool true), Is (.bool true), Is (.bool true), Is (.bool true)]) (by kernel_rfl) (specs_stb ⟨Is.stb _, Is.stb _, PtV.stb _, PtV.stb _, Is.stb _, Is.stb _, Is.stb _, PtV.stb _, PtV.stb _, PtV.stb _, Is.stb _, Is.stb _, Is.stb _, PtV.stb _, PtV.stb _, PtV.stb _, PtV.stb _, Is.stb _, Is.stb _, Is.stb _, Is.stb _, Is.stb _, PtV.stb _, PtV.stb _, Is.stb _, Is.stb _, Is.stb _, Is.stb _, Is.stb _, Is.stb _, Is.stb _, trivial⟩) (by kernel_rfl) ?_ ?_
  · refine ⟨fun a w hB hfr hdep => Step.plain rfl (dMove (R := Is (.bool true)) rfl (hfr 5 (by kernel_rfl))),
      fun a w hB hfr hdep => Step.plain rfl (dMove (R := Is (.bool true)) rfl (hdep 0 35 (by kernel_rfl))),
      fun a w hB hfr hdep => Step.yes 1 36 true rfl rfl (hdep 1 36 (by kernel_rfl)) (dLoadPt x21_5 (block_below hB (lt_of_heap hz6__7) hz6__7) rfl (hfr 6 (by kernel_rfl)) (fun _ h => h)),
      fun a w hB hfr hdep => Step.yes 1 36 true rfl rfl (hdep 1 36 (by kernel_rfl)) (Does.call 25 #[] (by kernel_rfl) (cZero w)),
      fun a w hB hfr hdep => Step.yes 1 36 true rfl rfl (hdep 1 36 (by kernel_rfl)) (Does.call 24 #[(a.eval (.tmp 37)), (a.eval (.tmp 38))] (by kernel_rfl) (cPEqT hq1 w w w (hdep 2 37 (by kernel_rfl)) (hdep 3 38 (by kernel_rfl)))),
      fun a w hB hfr hdep => Step.plain rfl (dPickT rfl (hdep 1 36 (by kernel_rfl)) (hdep 4 39 (by kernel_rfl))),
      fun a w hB hfr hdep => Step.plain rfl (dMove (R := Is (.bool true)) rfl (hdep 5 40 (by kernel_rfl))),
      fun a w hB hfr hdep => Step.yes 6 41 true rfl rfl (hdep 6 41 (by kernel_rfl)) (dLoadPt x30_6 (block_below hB (lt_of_heap n7_6__7) n7_6__7) rfl (hfr 7 (by kernel_rfl)) (fun _ h => h)),
      fun a w hB hfr hdep => Step.yes 6 41 true rfl rfl (hdep 6 41 (by kernel_rfl)) (dLoadPt x11_3 (block_below hB (lt_of_heap hz4__7) hz4__7) rfl (hfr 4 (by kernel_rfl)) (fun _ h => h)),
      fun a w hB hfr hdep => Step.yes 6 41 true rfl rfl (hdep 6 41 (by kernel_rfl)) (Does.call 26 #[(a.eval (.tmp 43))] (by kernel_rfl) (cNeg w w (hdep 8 43 (by kernel_rfl)))),
      fun a w hB hfr hdep => Step.yes 6 41 true rfl rfl (hdep 6 41 (by kernel_rfl)) (Does.call 24 #[(a.eval (.tmp 42)), (a.eval (.tmp 44))] (by kernel_rfl) (cPEqT hq2 w w w (hdep 7 42 (by kernel_rfl)) (hdep 9 44 (by kernel_rfl)))),
      fun a w hB hfr hdep => Step.plain rfl (dPickT rfl (hdep 6 41 (by kernel_rfl)) (hdep 10 45 (by kernel_rfl))),
      fun a w hB hfr hdep => Step.plain rfl (dMove (R := Is (.bool true)) rfl (hdep 11 46 (by kernel_rfl))),
      fun a w hB hfr hdep => Step.yes 12 47 true rfl rfl (hdep 12 47 (by kernel_rfl)) (dLoadPt x21_5 (block_below hB (lt_of_heap hz6__7) hz6__7) rfl (hfr 6 (by kernel_rfl)) (fun _ h => h)),
      fun a w hB hfr hdep => Step.yes 12 47 true rfl rfl (hdep 12 47 (by kernel_rfl)) (dLoadPt x34_7 (block_below hB (lt_of_heap n8_7) n8_7) rfl (hfr 8 (by kernel_rfl)) (fun _ h => h)),
      fun a w hB hfr hdep => Step.yes 12 47 true rfl rfl (hdep 12 47 (by kernel_rfl)) (Does.call 19 #[(a.eval (.tmp 48)), (a.eval (.tmp 49))] (by kernel_rfl) (cPAdd w w w (Tab.below hT7 hB) (hdep 13 48 (by kernel_rfl)) (hdep 14 49 (by kernel_rfl)))),
      fun a w hB hfr hdep => Step.yes 12 47 true rfl rfl (hdep 12 47 (by kernel_rfl)) (dLoadPt x34_7 (block_below hB (lt_of_heap n8_7) n8_7) rfl (hfr 8 (by kernel_rfl)) (fun _ h => h)),
      fun a w hB hfr hdep => Step.yes 12 47 true rfl rfl (hdep 12 47 (by kernel_rfl)) (Does.call 24 #[(a.eval (.tmp 50)), (a.eval (.tmp 51))] (by kernel_rfl) (cPEqT hq3 w w w (hdep 15 50 (by kernel_rfl)) (hdep 16 51 (by kernel_rfl)))),
      fun a w hB hfr hdep => Step.plain rfl (dPickT rfl (hdep 12 47 (by kernel_rfl)) (hdep 17 52 (by kernel_rfl))),
      fun a w hB hfr hdep => Step.plain rfl (dMove (R := Is (.bool true)) rfl (hdep 18 53 (by kernel_rfl))),
      fun a w hB hfr hdep => Step.yes 19 54 true rfl rfl (hdep 19 54 (by kernel_rfl)) (dMove (R := Is (.int .u8 0)) rfl (hfr 0 (by kernel_rfl))),
      fun a w hB hfr hdep => Step.yes 19 54 true rfl rfl (hdep 19 54 (by kernel_rfl)) (Does.run _ (run_binO rfl (hdep 20 55 (by kernel_rfl)) rfl (by kernel_rfl)) rfl),
      fun a w hB hfr hdep => Step.yes 19 54 true rfl rfl (hdep 19 54 (by kernel_rfl)) (dLoadPt x34_7 (block_below hB (lt_of_heap n8_7) n8_7) rfl (hfr 8 (by kernel_rfl)) (fun _ h => h)),
      fun a w hB hfr hdep => Step.yes 19 54 true rfl rfl (hdep 19 54 (by kernel_rfl)) (Does.call 25 #[] (by kernel_rfl) (cZero w)),
      fun a w hB hfr hdep => Step.yes 19 54 true rfl rfl (hdep 19 54 (by kernel_rfl)) (Does.call 24 #[(a.eval (.tmp 57)), (a.eval (.tmp 58))] (by kernel_rfl) (cPEqT hq4 w w w (hdep 22 57 (by kernel_rfl)) (hdep 23 58 (by kernel_rfl)))),
      fun a w hB hfr hdep => Step.yes 19 54 true rfl rfl (hdep 19 54 (by kernel_rfl)) (Does.run _ (run_binO rfl (hdep 21 56 (by kernel_rfl)) (hdep 24 59 (by kernel_rfl)) (by kernel_rfl)) rfl),
      fun a w hB hfr hdep => Step.plain rfl (dPickT rfl (hdep 19 54 (by kernel_rfl)) (hdep 25 60 (by kernel_rfl))),
      fun a w hB hfr hdep => Step.plain rfl (dMove (R := Is (.bool true)) rfl (hdep 26 61 (by kernel_rfl))),
      fun a w hB hfr hdep => Step.yes 27 62 true rfl rfl (hdep 27 62 (by kernel_rfl)) (Does.call 13 #[] (by kernel_rfl) (cLives w (Tab.below hT7 hB))),
      fun a w hB hfr hdep => Step.plain rfl (dPickT rfl (hdep 27 62 (by kernel_rfl)) (hdep 28 63 (by kernel_rfl))),
      fun a w hB hfr hdep => Step.plain rfl (dAssign (R := Is (.bool true)) rfl (hdep 29 64 (by kernel_rfl))), trivial⟩
  intro u8 hb8
  simp only [List.take, List.drop, FinAll, Act.put, List.setIfInBounds_toArray, List.set_cons_succ, List.set_cons_zero]
  rintro _ rfl _ rfl v37_8 h37_8 v38_8 h38_8 _ rfl _ rfl _ rfl v42_8 h42_8 v43_8 h43_8 v44_8 h44_8 _ rfl _ rfl _ rfl v48_8 h48_8 v49_8 h49_8 v50_8 h50_8 v51_8 h51_8 _ rfl _ rfl _ rfl _ rfl _ rfl v57_8 h57_8 v58_8 h58_8 _ rfl _ rfl _ rfl _ rfl _ rfl _ rfl _ rfl
  have hO8 := (hO7).trans (hb8.mono (hO7).size)
  have hz4__8 := block_below hb8 (lt_of_heap hz4__7) hz4__7
  have hz6__8 := block_below hb8 (lt_of_heap hz6__7) hz6__7
  have hst__8 := block_below hb8 (lt_of_heap hst__7) hst__7
  have n7_6__8 := block_below hb8 (lt_of_heap n7_6__7) n7_6__7
  have n8_7__8 := block_below hb8 (lt_of_heap n8_7) n8_7
  have hT8 := Tab.below hT7 hb8
  refine hK8 _ _ ?_
  clear hK8 K8
  refine wp_ret ?_
  refine bodyPost_ret (results_tmp rfl _ _ _) rfl ?_
  exact ⟨_, rfl, hO8, rfl⟩
theorem curveBase5K {k : Nat} (w : World) (hT : Tab w) (hk : k < 256) (hk0 : k ≠ 0) : Ret 5 #[.int .u8 (k : Int)] w (Is (.bool true)) := by
  have vk : valD [k] = k := by simp [valD]
  have hq1 : (bp).nm (valD (digs 32 LN)) = Pt.zero := by rw [valLN]; exact bp_L
  have hq2 : (bp).nm (valD (digs 32 (LN - 1))) = (bp).neg := by rw [valLB]; exact bp_back (by decide)
  have hq3 : ((bp).nm (valD (digs 32 LN))).add ((bp).nm (valD ([k]))) = (bp).nm (valD ([k])) := by rw [hq1]; exact Pt.zero_add _
  have hq4 : ¬ (bp).nm (valD ([k])) = Pt.zero := by rw [vk]; exact fun h => hk0 ((bp_few hk).1 h)
  unfold Ret
  have hO0 : Below w.heap.size w w := Below.refl _ _
  go_enter Tryd.func5, Tryd.ntmps5
  refine wp_seq_k fun K1 hK1 => ?_
  refine wp_plain_inv 1 (specs [Is (.bool false)]) (specs_stb ⟨Is.stb _, trivial⟩) (by kernel_rfl) ?_ ?_
  · refine ⟨fun a w hB hfr hdep => Step.plain rfl (dAssign (R := Is (.bool false)) rfl rfl), trivial⟩
  intro u1 hb1
  simp only [List.take, List.drop, FinAll, Act.put, List.setIfInBounds_toArray, List.set_cons_succ, List.set_cons_zero]
  rintro _ rfl
  have hO1 := (hO0).trans (hb1.mono (hO0).size)
  have hT1 := Tab.below hT hb1
  refine hK1 _ _ ?_
  clear hK1 K1
  refine wp_seq_k fun K2 hK2 => ?_
  refine wp_plain_inv 3 (specs [DRow (digs 32 LN), OwnC u1.heap.size (digs 32 LN), OwnC u1.heap.size (digs 32 LN)]) (specs_stb ⟨DRow.stb _, OwnC.stb _ _, OwnC.stb _ _, trivial⟩) (by kernel_rfl) ?_ ?_
  · refine ⟨fun a w hB hfr hdep => Step.plain rfl (Does.call 22 #[] (by kernel_rfl) (rL w)),
      fun a w hB hfr hdep => Step.plain rfl (Does.call 21 #[(a.eval (.tmp 9))] (by kernel_rfl) (ownCLo hB.size (rBytes valLN w (hdep 0 9 (by kernel_rfl)) (by rw [digs_len]; omega) (digs_dig _ _)))),
      fun a w hB hfr hdep => Step.plain rfl (dAssign (R := OwnC u1.heap.size (digs 32 LN)) rfl (hdep 1 10 (by kernel_rfl))), trivial⟩
  intro u2 hb2
  simp only [List.take, List.drop, FinAll, Act.put, List.setIfInBounds_toArray, List.set_cons_succ, List.set_cons_zero]
  rintro v9_2 h9_2 v10_2 h10_2 v3_2 h3_2
  have hO2 := (hO1).trans (hb2.mono (hO1).size)
  have hT2 := Tab.below hT1 hb2
  refine hK2 _ _ ?_
  clear hK2 K2
  obtain ⟨g3, cap3, cur3, hv3, hl3, hrow3, hc3, hc3', hcur⟩ := h3_2
  rw [digs_len] at hv3 hc3 hcur
  subst hv3
  have hlow3 : w.heap.size ≤ g3 := Nat.le_trans hO1.size hl3
  have hg3 := lt_of_heap hrow3
  refine wp_seq_k fun K3 hK3 => ?_
  refine wp_plain_inv 2 (specs [PtV (bp), Box u2.heap.size (ptc zeroE zeroE zeroE zeroE) 29]) (specs_stb ⟨PtV.stb _, Box.stb _ _ _, trivial⟩) (by kernel_rfl) ?_ ?_
  · refine ⟨fun a w hB hfr hdep => Step.plain rfl (Does.call 16 #[] (by kernel_rfl) (cBase w (Tab.below hT2 hB))),
      fun a w hB hfr hdep => Step.plain rfl (dAlloc29 hB.size rfl), trivial⟩
  intro u3 hb3
  simp only [List.take, List.drop, FinAll, Act.put, List.setIfInBounds_toArray, List.set_cons_succ, List.set_cons_zero]
  rintro _ ⟨e11_3, rfl, x11_3⟩ _ ⟨g4_3, rfl, l4_3, m4_3⟩
  refine wpList_store_row rfl 29 (.tmp 4) (.tmp 11) rfl _ (e11_3) rfl rfl 29 _ m4_3 (by rw [cellsP_size x11_3]; exact info29) (by rw [cellsP_size x11_3]; rfl) (cellsP_one x11_3) ?_
  have n4_3 := setRow_heap _ _ _ (e11_3) _ _ m4_3
  replace hb3 := setRow_below hb3 l4_3 (e11_3)
  generalize hw3_1 : u3.setRow g4_3 (e11_3) = u3_1 at n4_3 hb3  ⊢
  clear hw3_1 m4_3
  have hO3 := (hO2).trans (hb3.mono (hO2).size)
  have hrow3__3 := block_below hb3 (lt_of_heap hrow3) hrow3
  have lwn4_3 := Nat.le_trans (hO2).size l4_3
  have hT3 := Tab.below hT2 hb3
  refine hK3 _ _ ?_
  clear hK3 K3
  refine wp_seq_k fun K4 hK4 => ?_
  refine wp_region_inv 8 (specs [PtV (bp), Own u3_1.heap.size (digs 32 (Pt.enc (bp))), Is (.string (strOf (digs 32 (Pt.enc (bp))))), RPt ((bp).x) ((bp).y), OwnC u3_1.heap.size (digs 32 (Pt.enc (bp))), Is (.string (strOf (digs 32 (Pt.enc (bp))))), Is (.bool true), Is (.bool true)]) (by kernel_rfl) (specs_stb ⟨PtV.stb _, Own.stb _ _, Is.stb _, RPt.stb _ _, OwnC.stb _ _, Is.stb _, Is.stb _, Is.stb _, trivial⟩) (by kernel_rfl) ?_ ?_
  · refine ⟨fun a w hB hfr hdep => Step.plain rfl (dLoadPt x11_3 (block_below hB (lt_of_heap n4_3) n4_3) rfl (hfr 4 (by kernel_rfl)) (fun _ h => h)),
      fun a w hB hfr hdep => Step.plain rfl (Does.call 14 #[(a.eval (.tmp 12))] (by kernel_rfl) (ownLo hB.size (cPBytes w w (hdep 0 12 (by kernel_rfl))))),
      fun a w hB hfr hdep => Step.plain rfl (dConvOwn rfl (hdep 1 13 (by kernel_rfl))),
      fun a w hB hfr hdep => Step.plain rfl (Does.call 23 #[] (by kernel_rfl) (rBase w)),
      fun a w hB hfr hdep => Step.plain rfl (Does.call 20 #[(a.eval (.tmp 15))] (by kernel_rfl) (ownCLo hB.size (rPBytes w (hdep 3 15 (by kernel_rfl))))),
      fun a w hB hfr hdep => Step.plain rfl (dConvBts rfl (OwnC.bts (hdep 4 16 (by kernel_rfl)))),
      fun a w hB hfr hdep => Step.plain rfl (Does.run _ (run_eqStrB (str_refl _) rfl (hdep 2 14 (by kernel_rfl)) (hdep 5 17 (by kernel_rfl))) rfl),
      fun a w hB hfr hdep => Step.plain rfl (dAssign (R := Is (.bool true)) rfl (hdep 6 18 (by kernel_rfl))), trivial⟩
  intro u4 hb4
  simp only [List.take, List.drop, FinAll, Act.put, List.setIfInBounds_toArray, List.set_cons_succ, List.set_cons_zero]
  rintro v12_4 h12_4 v13_4 h13_4 _ rfl v15_4 h15_4 v16_4 h16_4 _ rfl _ rfl _ rfl
  have hO4 := (hO3).trans (hb4.mono (hO3).size)
  have hrow3__4 := block_below hb4 (lt_of_heap hrow3__3) hrow3__3
  have n4_3__4 := block_below hb4 (lt_of_heap n4_3) n4_3
  have hT4 := Tab.below hT3 hb4
  refine hK4 _ _ ?_
  clear hK4 K4
  refine wp_seq_k fun K5 hK5 => ?_
  refine wp_plain_inv 4 (specs [PtV (bp), Is (.slice (some ⟨g3, 0, none⟩) 32 cap3), PtV ((bp).nm (valD (digs 32 LN))), Box u4.heap.size (ptc zeroE zeroE zeroE zeroE) 29]) (specs_stb ⟨PtV.stb _, Is.stb _, PtV.stb _, Box.stb _ _ _, trivial⟩) (by kernel_rfl) ?_ ?_
  · refine ⟨fun a w hB hfr hdep => Step.plain rfl (dLoadPt x11_3 (block_below hB (lt_of_heap n4_3__4) n4_3__4) rfl (hfr 4 (by kernel_rfl)) (fun _ h => h)),
      fun a w hB hfr hdep => Step.plain rfl (dMove (R := Is (.slice (some ⟨g3, 0, none⟩) 32 cap3)) rfl (hfr 3 (by kernel_rfl))),
      fun a w hB hfr hdep => Step.plain rfl (Does.call 17 #[(a.eval (.tmp 19)), (a.eval (.tmp 20))] (by kernel_rfl) (cMulP w w (Tab.below hT4 hB) (hdep 0 19 (by kernel_rfl)) (btsRow (n := 0) (digs_len _ _) (hdep 1 20 (by kernel_rfl)) (block_below hB (lt_of_heap hrow3__4) hrow3__4) hc3 hc3' hcur) (digs_dig _ _) (by rw [digs_len]; omega))),
      fun a w hB hfr hdep => Step.plain rfl (dAlloc29 hB.size rfl), trivial⟩
  intro u5 hb5
  simp only [List.take, List.drop, FinAll, Act.put, List.setIfInBounds_toArray, List.set_cons_succ, List.set_cons_zero]
  rintro v19_5 h19_5 _ rfl _ ⟨e21_5, rfl, x21_5⟩ _ ⟨g6_5, rfl, l6_5, m6_5⟩
  refine wpList_store_row rfl 29 (.tmp 6) (.tmp 21) rfl _ (e21_5) rfl rfl 29 _ m6_5 (by rw [cellsP_size x21_5]; exact info29) (by rw [cellsP_size x21_5]; rfl) (cellsP_one x21_5) ?_
  have n6_5 := setRow_heap _ _ _ (e21_5) _ _ m6_5
  replace hb5 := setRow_below hb5 l6_5 (e21_5)
  generalize hw5_1 : u5.setRow g6_5 (e21_5) = u5_1 at n6_5 hb5  ⊢
  clear hw5_1 m6_5
  have hO5 := (hO4).trans (hb5.mono (hO4).size)
  have hrow3__5 := block_below hb5 (lt_of_heap hrow3__4) hrow3__4
  have n4_3__5 := block_below hb5 (lt_of_heap n4_3__4) n4_3__4
  have lwn6_5 := Nat.le_trans (hO4).size l6_5
  have hT5 := Tab.below hT4 hb5
  refine hK5 _ _ ?_
  clear hK5 K5
  have c0 := cell_of_row _ g3 0 _ _ _ hrow3__5
  rw [hcur 0 (by omega), LN_0] at c0
  have f0 := frozen_of_row _ g3 0 _ _ hrow3__5
  have hst := cur_set hrow3__5 (by rw [digs_len]; exact hcur) 0 236 (by rw [digs_len]; omega)
  rw [LN_back, digs_len] at hst
  have hOs := (hO5).setCell (p := ⟨g3, 0, none⟩) hlow3 (.int .u8 236)
  have n4 : g4_3 ≠ g3 := by have := hb3.size; have := hb4.size; have := hb5.size; omega
  have n6 : g6_5 ≠ g3 := by have := hb3.size; have := hb4.size; have := hb5.size; omega
  have hz4 := (heap_setCell_other u5_1 ⟨g3, 0, none⟩ g4_3 (.int .u8 236) n4).trans n4_3__5
  have hz6 := (heap_setCell_other u5_1 ⟨g3, 0, none⟩ g6_5 (.int .u8 236) n6).trans n6_5
  have hTs : Tab (u5_1.setCell ⟨g3, 0, none⟩ (.int .u8 236)) := hT5.setCell (by show 2 < g3; have := hT.size; omega)
  have HOS : Hid _ := hOs
  have HZ4 : Hid _ := hz4
  have HZ6 : Hid _ := hz6
  have HTS : Hid _ := hTs
  have HST : Hid _ := hst
  clear hOs hz4 hz6 hTs hst
  simp only [Int.cast_ofNat_Int] at c0
  refine wp_seq_k fun KB hKB => ?_
  have HKB : Hid _ := hKB
  clear hKB
  go_wp2
  refine HKB.out _ _ ?_
  clear HKB KB
  have hO := HOS.out
  have hz4 := HZ4.out
  have hz6 := HZ6.out
  have hT9 := HTS.out
  have hst := HST.out.1
  have hcur2 := HST.out.2
  clear HOS HZ4 HZ6 HTS HST c0 f0
  simp only [Int.cast_ofNat_Int] at hst hcur2
  obtain ⟨cur5, hcur5⟩ : ∃ c, c = cur3.setIfInBounds 0 (.int .u8 236) := ⟨_, rfl⟩
  rw [← hcur5] at hst hcur2
  generalize u5_1.setCell ⟨g3, 0, none⟩ (.int .u8 236) = uu at hO hz4 hz6 hT9 hst ⊢
  refine wp_seq_k fun K6 hK6 => ?_
  refine wp_plain_inv 4 (specs [PtV (bp), Is (.slice (some ⟨g3, 0, none⟩) 32 cap3), PtV ((bp).nm (valD (digs 32 (LN - 1)))), Box uu.heap.size (ptc zeroE zeroE zeroE zeroE) 29]) (specs_stb ⟨PtV.stb _, Is.stb _, PtV.stb _, Box.stb _ _ _, trivial⟩) (by kernel_rfl) ?_ ?_
  · refine ⟨fun a w hB hfr hdep => Step.plain rfl (dLoadPt x11_3 (block_below hB (lt_of_heap hz4) hz4) rfl (hfr 4 (by kernel_rfl)) (fun _ h => h)),
      fun a w hB hfr hdep => Step.plain rfl (dMove (R := Is (.slice (some ⟨g3, 0, none⟩) 32 cap3)) rfl (hfr 3 (by kernel_rfl))),
      fun a w hB hfr hdep => Step.plain rfl (Does.call 17 #[(a.eval (.tmp 28)), (a.eval (.tmp 29))] (by kernel_rfl) (cMulP w w (Tab.below hT9 hB) (hdep 0 28 (by kernel_rfl)) (btsRow (n := 0) (digs_len _ _) (hdep 1 29 (by kernel_rfl)) (block_below hB (lt_of_heap hst) hst) hc3 hc3' hcur2) (digs_dig _ _) (by rw [digs_len]; omega))),
      fun a w hB hfr hdep => Step.plain rfl (dAlloc29 hB.size rfl), trivial⟩
  intro u6 hb6
  simp only [List.take, List.drop, FinAll, Act.put, List.setIfInBounds_toArray, List.set_cons_succ, List.set_cons_zero]
  rintro v28_6 h28_6 _ rfl _ ⟨e30_6, rfl, x30_6⟩ _ ⟨g7_6, rfl, l7_6, m7_6⟩
  refine wpList_store_row rfl 29 (.tmp 7) (.tmp 30) rfl _ (e30_6) rfl rfl 29 _ m7_6 (by rw [cellsP_size x30_6]; exact info29) (by rw [cellsP_size x30_6]; rfl) (cellsP_one x30_6) ?_
  have n7_6 := setRow_heap _ _ _ (e30_6) _ _ m7_6
  replace hb6 := setRow_below hb6 l7_6 (e30_6)
  generalize hw6_1 : u6.setRow g7_6 (e30_6) = u6_1 at n7_6 hb6  ⊢
  clear hw6_1 m7_6
  have hO6 := (hO).trans (hb6.mono (hO).size)
  have hz4__6 := block_below hb6 (lt_of_heap hz4) hz4
  have hz6__6 := block_below hb6 (lt_of_heap hz6) hz6
  have hst__6 := block_below hb6 (lt_of_heap hst) hst
  have lwn7_6 := Nat.le_trans (hO).size l7_6
  have hT6 := Tab.below hT9 hb6
  refine hK6 _ _ ?_
  clear hK6 K6
  refine wp_seq_k fun K7 hK7 => ?_
  refine wp_plain_inv 5 (specs [PtV (bp), Is (.int .u8 (k : Int)), Own u6_1.heap.size ([k]), PtV ((bp).nm (valD ([k]))), Box u6_1.heap.size (ptc zeroE zeroE zeroE zeroE) 29]) (specs_stb ⟨PtV.stb _, Is.stb _, Own.stb _ _, PtV.stb _, Box.stb _ _ _, trivial⟩) (by kernel_rfl) ?_ ?_
  · refine ⟨fun a w hB hfr hdep => Step.plain rfl (dLoadPt x11_3 (block_below hB (lt_of_heap hz4__6) hz4__6) rfl (hfr 4 (by kernel_rfl)) (fun _ h => h)),
      fun a w hB hfr hdep => Step.plain rfl (dMove (R := Is (.int .u8 (k : Int))) rfl (hfr 0 (by kernel_rfl))),
      fun a w hB hfr hdep => Step.plain rfl (dSlice1 hB.size rfl (hdep 1 32 (by kernel_rfl))),
      fun a w hB hfr hdep => Step.plain rfl (Does.call 17 #[(a.eval (.tmp 31)), (a.eval (.tmp 33))] (by kernel_rfl) (cMulP w w (Tab.below hT6 hB) (hdep 0 31 (by kernel_rfl)) (Own.bts (hdep 2 33 (by kernel_rfl)) (by first | decide | (rw [digs_len]; omega) | simp)) (dig_lt (by simpa using hk)) (by first | decide | (rw [digs_len]; omega) | simp))),
      fun a w hB hfr hdep => Step.plain rfl (dAlloc29 hB.size rfl), trivial⟩
  intro u7 hb7
  simp only [List.take, List.drop, FinAll, Act.put, List.setIfInBounds_toArray, List.set_cons_succ, List.set_cons_zero]
  rintro v31_7 h31_7 _ rfl v33_7 h33_7 _ ⟨e34_7, rfl, x34_7⟩ _ ⟨g8_7, rfl, l8_7, m8_7⟩
  refine wpList_store_row rfl 29 (.tmp 8) (.tmp 34) rfl _ (e34_7) rfl rfl 29 _ m8_7 (by rw [cellsP_size x34_7]; exact info29) (by rw [cellsP_size x34_7]; rfl) (cellsP_one x34_7) ?_
  have n8_7 := setRow_heap _ _ _ (e34_7) _ _ m8_7
  replace hb7 := setRow_below hb7 l8_7 (e34_7)
  generalize hw7_1 : u7.setRow g8_7 (e34_7) = u7_1 at n8_7 hb7  ⊢
  clear hw7_1 m8_7
  have hO7 := (hO6).trans (hb7.mono (hO6).size)
  have hz4__7 := block_below hb7 (lt_of_heap hz4__6) hz4__6
  have hz6__7 := block_below hb7 (lt_of_heap hz6__6) hz6__6
  have hst__7 := block_below hb7 (lt_of_heap hst__6) hst__6
  have n7_6__7 := block_below hb7 (lt_of_heap n7_6) n7_6
  have lwn8_7 := Nat.le_trans (hO6).size l8_7
  have hT7 := Tab.below hT6 hb7
  refine hK7 _ _ ?_
  clear hK7 K7
  refine wp_seq_k fun K8 hK8 => ?_
  refine wp_region_inv 31 (specs [Is (.bool true), Is (.bool true), PtV ((bp).nm (valD (digs 32 LN))), PtV (Pt.zero), Is (.bool true), Is (.bool true), Is (.bool true), PtV ((bp).nm (valD (digs 32 (LN - 1)))), PtV (bp), PtV ((bp).neg), Is (.bool true), Is (.bool true), Is (.bool true), PtV ((bp).nm (valD (digs 32 LN))), PtV ((bp).nm (valD ([k]))), PtV (((bp).nm (valD (digs 32 LN))).add ((bp).nm (valD ([k])))), PtV ((bp).nm (valD ([k]))), Is (.bool true), Is (.bool true), Is (.bool true), Is (.int .u8 (k : Int)), Is (.bool false), PtV ((bp).nm (valD ([k]))), PtV (Pt.zero), Is (.bool false), Is (.bool true), Is (.bool true), Is (.bool true), Is (.bool true), Is (.bool true), Is (.bool true)]) (by kernel_rfl) (specs_stb ⟨Is.stb _, Is.stb _, PtV.stb _, PtV.stb _, Is.stb _, Is.stb _, Is.stb _, PtV.stb _, PtV.stb _, PtV.stb _, Is.stb _, Is.stb _, Is.stb _, PtV.stb _, PtV.stb _, PtV.stb _, PtV.stb _, Is.stb _, Is.stb _, Is.stb _, Is.stb _, Is.stb _, PtV.stb _, PtV.stb _, Is.stb _, Is.stb _, Is.stb _, Is.stb _, Is.stb _, Is.stb _, Is.stb _, trivial⟩) (by kernel_rfl) ?_ ?_
  · refine ⟨fun a w hB hfr hdep => Step.plain rfl (dMove (R := Is (.bool true)) rfl (hfr 5 (by kernel_rfl))),
      fun a w hB hfr hdep => Step.plain rfl (dMove (R := Is (.bool true)) rfl (hdep 0 35 (by kernel_rfl))),
      fun a w hB hfr hdep => Step.yes 1 36 true rfl rfl (hdep 1 36 (by kernel_rfl)) (dLoadPt x21_5 (block_below hB (lt_of_heap hz6__7) hz6__7) rfl (hfr 6 (by kernel_rfl)) (fun _ h => h)),
      fun a w hB hfr hdep => Step.yes 1 36 true rfl rfl (hdep 1 36 (by kernel_rfl)) (Does.call 25 #[] (by kernel_rfl) (cZero w)),
      fun a w hB hfr hdep => Step.yes 1 36 true rfl rfl (hdep 1 36 (by kernel_rfl)) (Does.call 24 #[(a.eval (.tmp 37)), (a.eval (.tmp 38))] (by kernel_rfl) (cPEqT hq1 w w w (hdep 2 37 (by kernel_rfl)) (hdep 3 38 (by kernel_rfl)))),
      fun a w hB hfr hdep => Step.plain rfl (dPickT rfl (hdep 1 36 (by kernel_rfl)) (hdep 4 39 (by kernel_rfl))),
      fun a w hB hfr hdep => Step.plain rfl (dMove (R := Is (.bool true)) rfl (hdep 5 40 (by kernel_rfl))),
      fun a w hB hfr hdep => Step.yes 6 41 true rfl rfl (hdep 6 41 (by kernel_rfl)) (dLoadPt x30_6 (block_below hB (lt_of_heap n7_6__7) n7_6__7) rfl (hfr 7 (by kernel_rfl)) (fun _ h => h)),
      fun a w hB hfr hdep => Step.yes 6 41 true rfl rfl (hdep 6 41 (by kernel_rfl)) (dLoadPt x11_3 (block_below hB (lt_of_heap hz4__7) hz4__7) rfl (hfr 4 (by kernel_rfl)) (fun _ h => h)),
      fun a w hB hfr hdep => Step.yes 6 41 true rfl rfl (hdep 6 41 (by kernel_rfl)) (Does.call 26 #[(a.eval (.tmp 43))] (by kernel_rfl) (cNeg w w (hdep 8 43 (by kernel_rfl)))),
      fun a w hB hfr hdep => Step.yes 6 41 true rfl rfl (hdep 6 41 (by kernel_rfl)) (Does.call 24 #[(a.eval (.tmp 42)), (a.eval (.tmp 44))] (by kernel_rfl) (cPEqT hq2 w w w (hdep 7 42 (by kernel_rfl)) (hdep 9 44 (by kernel_rfl)))),
      fun a w hB hfr hdep => Step.plain rfl (dPickT rfl (hdep 6 41 (by kernel_rfl)) (hdep 10 45 (by kernel_rfl))),
      fun a w hB hfr hdep => Step.plain rfl (dMove (R := Is (.bool true)) rfl (hdep 11 46 (by kernel_rfl))),
      fun a w hB hfr hdep => Step.yes 12 47 true rfl rfl (hdep 12 47 (by kernel_rfl)) (dLoadPt x21_5 (block_below hB (lt_of_heap hz6__7) hz6__7) rfl (hfr 6 (by kernel_rfl)) (fun _ h => h)),
      fun a w hB hfr hdep => Step.yes 12 47 true rfl rfl (hdep 12 47 (by kernel_rfl)) (dLoadPt x34_7 (block_below hB (lt_of_heap n8_7) n8_7) rfl (hfr 8 (by kernel_rfl)) (fun _ h => h)),
      fun a w hB hfr hdep => Step.yes 12 47 true rfl rfl (hdep 12 47 (by kernel_rfl)) (Does.call 19 #[(a.eval (.tmp 48)), (a.eval (.tmp 49))] (by kernel_rfl) (cPAdd w w w (Tab.below hT7 hB) (hdep 13 48 (by kernel_rfl)) (hdep 14 49 (by kernel_rfl)))),
      fun a w hB hfr hdep => Step.yes 12 47 true rfl rfl (hdep 12 47 (by kernel_rfl)) (dLoadPt x34_7 (block_below hB (lt_of_heap n8_7) n8_7) rfl (hfr 8 (by kernel_rfl)) (fun _ h => h)),
      fun a w hB hfr hdep => Step.yes 12 47 true rfl rfl (hdep 12 47 (by kernel_rfl)) (Does.call 24 #[(a.eval (.tmp 50)), (a.eval (.tmp 51))] (by kernel_rfl) (cPEqT hq3 w w w (hdep 15 50 (by kernel_rfl)) (hdep 16 51 (by kernel_rfl)))),
      fun a w hB hfr hdep => Step.plain rfl (dPickT rfl (hdep 12 47 (by kernel_rfl)) (hdep 17 52 (by kernel_rfl))),
      fun a w hB hfr hdep => Step.plain rfl (dMove (R := Is (.bool true)) rfl (hdep 18 53 (by kernel_rfl))),
      fun a w hB hfr hdep => Step.yes 19 54 true rfl rfl (hdep 19 54 (by kernel_rfl)) (dMove (R := Is (.int .u8 (k : Int))) rfl (hfr 0 (by kernel_rfl))),
      fun a w hB hfr hdep => Step.yes 19 54 true rfl rfl (hdep 19 54 (by kernel_rfl)) (Does.run _ (run_eq5F hk0 rfl (hdep 20 55 (by kernel_rfl)) rfl) rfl),
      fun a w hB hfr hdep => Step.yes 19 54 true rfl rfl (hdep 19 54 (by kernel_rfl)) (dLoadPt x34_7 (block_below hB (lt_of_heap n8_7) n8_7) rfl (hfr 8 (by kernel_rfl)) (fun _ h => h)),
      fun a w hB hfr hdep => Step.yes 19 54 true rfl rfl (hdep 19 54 (by kernel_rfl)) (Does.call 25 #[] (by kernel_rfl) (cZero w)),
      fun a w hB hfr hdep => Step.yes 19 54 true rfl rfl (hdep 19 54 (by kernel_rfl)) (Does.call 24 #[(a.eval (.tmp 57)), (a.eval (.tmp 58))] (by kernel_rfl) (cPEqF hq4 w w w (hdep 22 57 (by kernel_rfl)) (hdep 23 58 (by kernel_rfl)))),
      fun a w hB hfr hdep => Step.yes 19 54 true rfl rfl (hdep 19 54 (by kernel_rfl)) (Does.run _ (run_binO rfl (hdep 21 56 (by kernel_rfl)) (hdep 24 59 (by kernel_rfl)) (by kernel_rfl)) rfl),
      fun a w hB hfr hdep => Step.plain rfl (dPickT rfl (hdep 19 54 (by kernel_rfl)) (hdep 25 60 (by kernel_rfl))),
      fun a w hB hfr hdep => Step.plain rfl (dMove (R := Is (.bool true)) rfl (hdep 26 61 (by kernel_rfl))),
      fun a w hB hfr hdep => Step.yes 27 62 true rfl rfl (hdep 27 62 (by kernel_rfl)) (Does.call 13 #[] (by kernel_rfl) (cLives w (Tab.below hT7 hB))),
      fun a w hB hfr hdep => Step.plain rfl (dPickT rfl (hdep 27 62 (by kernel_rfl)) (hdep 28 63 (by kernel_rfl))),
      fun a w hB hfr hdep => Step.plain rfl (dAssign (R := Is (.bool true)) rfl (hdep 29 64 (by kernel_rfl))), trivial⟩
  intro u8 hb8
  simp only [List.take, List.drop, FinAll, Act.put, List.setIfInBounds_toArray, List.set_cons_succ, List.set_cons_zero]
  rintro _ rfl _ rfl v37_8 h37_8 v38_8 h38_8 _ rfl _ rfl _ rfl v42_8 h42_8 v43_8 h43_8 v44_8 h44_8 _ rfl _ rfl _ rfl v48_8 h48_8 v49_8 h49_8 v50_8 h50_8 v51_8 h51_8 _ rfl _ rfl _ rfl _ rfl _ rfl v57_8 h57_8 v58_8 h58_8 _ rfl _ rfl _ rfl _ rfl _ rfl _ rfl _ rfl
  have hO8 := (hO7).trans (hb8.mono (hO7).size)
  have hz4__8 := block_below hb8 (lt_of_heap hz4__7) hz4__7
  have hz6__8 := block_below hb8 (lt_of_heap hz6__7) hz6__7
  have hst__8 := block_below hb8 (lt_of_heap hst__7) hst__7
  have n7_6__8 := block_below hb8 (lt_of_heap n7_6__7) n7_6__7
  have n8_7__8 := block_below hb8 (lt_of_heap n8_7) n8_7
  have hT8 := Tab.below hT7 hb8
  refine hK8 _ _ ?_
  clear hK8 K8
  refine wp_ret ?_
  refine bodyPost_ret (results_tmp rfl _ _ _) rfl ?_
  exact ⟨_, rfl, hO8, rfl⟩
theorem curveBase5 {x : Int} (w : World) (hT : Tab w) (h0 : 0 ≤ x) (h1 : x ≤ 255) : Ret 5 #[.int .u8 x] w (Is (.bool true)) := by
  obtain ⟨k, rfl⟩ := Int.eq_ofNat_of_zero_le h0
  by_cases hk : k = 0
  · subst hk; exact curveBase5Z w hT
  · exact curveBase5K w hT (by omega) hk
end Go.Proofs.YtpfcboakafbnlaaDoor
