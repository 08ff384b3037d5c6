/-
  few, lives. The walk of CurveGroup. The walk of CurveNeg.
-/
import Derived.Test.YtpfcboakafbnlaaDoorNB
set_option linter.unusedVariables false
namespace Go.Proofs.YtpfcboakafbnlaaDoor
open Go.RowKit Go.Sort Go.BigFrame
set_option maxRecDepth 100000
set_option maxHeartbeats 2000000
section
variable {ρ : Operand → Value} {o : Oper} {x y z t : Operand} {w : World}
theorem run_idx22 {g off n cap i : Nat} (ho : o.op = .indexAddr 22 x y) (hx : ρ x = .slice (some ⟨g, off, none⟩) n cap) (hy : ρ y = .int .i64 (i : Int)) (hi : i < n) : (execOp ρ o).run Tryd.prog w = .ok (.value (.pointer (some ⟨g, off + i, none⟩))) w := by
  simp [execOp, ho, hx, hy, go_sem, hi]
theorem run_idx33 {g off n cap i : Nat} (ho : o.op = .indexAddr 33 x y) (hx : ρ x = .slice (some ⟨g, off, none⟩) n cap) (hy : ρ y = .int .i64 (i : Int)) (hi : i < n) : (execOp ρ o).run Tryd.prog w = .ok (.value (.pointer (some ⟨g, off + i, none⟩))) w := by
  simp [execOp, ho, hx, hy, go_sem, hi]
theorem run_load5 {p : Addr} {n : Int} (ho : o.op = .load 5 x) (hx : ρ x = .pointer (some p)) (hc : w.cell? p = some (.int .u8 n)) : (execOp ρ o).run Tryd.prog w = .ok (.value (.int .u8 n)) w := by
  simp [execOp, ho, hx, go_sem, hc, Instr.loadAt, Instr.sureAddr]
theorem run_load3 {p : Addr} {n : Int} (ho : o.op = .load 3 x) (hx : ρ x = .pointer (some p)) (hc : w.cell? p = some (.int .i64 n)) : (execOp ρ o).run Tryd.prog w = .ok (.value (.int .i64 n)) w := by
  simp [execOp, ho, hx, go_sem, hc, Instr.loadAt, Instr.sureAddr]
theorem cell_val {g t : Nat} {k : IntKind} {l : List Nat} {v : Nat} (h : w.heap[g]? = some (.cells (ints k l) t (0, 0))) (i : Nat) (hi : i < l.length) (hv : l.getD i 0 = v) : w.cell? ⟨g, i, none⟩ = some (.int k (v : Int)) := by
  rw [← hv]; exact cell_ints h i hi
theorem dSlice1 {lo n : Nat} (hlo : lo ≤ w.heap.size) (ho : o.op = .buildSlice 22 1 #[(0, x)]) (hx : ρ x = .int .u8 (n : Int)) : Does Tryd.prog o ρ w (fun v w' => Below w.heap.size w w' ∧ Own lo [n] v w') :=
  Does.new (.slice (some ⟨w.heap.size, 0, none⟩) 1 1) (.cells #[.int .u8 (n : Int)] 5) (by simp only [execOp, ho, List.map_toArray, List.map, hx]; kernel_rfl) ⟨_, rfl, hlo, heap_alloc_new _ _⟩
end
theorem cPEqT {p q : Pt} (h : p = q) {v1 v2 : Value} (w w0 w1 : World) (h1 : PtV p v1 w0) (h2 : PtV q v2 w1) : Ret 24 #[v1, v2] w (Is (.bool true)) := cPEq ⟨fun _ => rfl, fun _ => h⟩ w w0 w1 h1 h2
theorem cPEqF {p q : Pt} (h : ¬ p = q) {v1 v2 : Value} (w w0 w1 : World) (h1 : PtV p v1 w0) (h2 : PtV q v2 w1) : Ret 24 #[v1, v2] w (Is (.bool false)) := cPEq ⟨fun e => absurd e h, fun e => by cases e⟩ w w0 w1 h1 h2
theorem bp_b0 : (digs 32 bp.enc).getD 0 0 = 88 := by decide
theorem bp_b1 : (digs 32 bp.enc).getD 1 0 = 102 := by decide
theorem bp_b31 : (digs 32 bp.enc).getD 31 0 = 102 := by decide
theorem few10 (a : Option Addr) (len cap most : Nat) (w : World) (hcap : len ≤ cap) (hcap2 : cap ≤ 9223372036854775807) (hm : most ≤ 100) :
    Calls Tryd.prog 10 #[.slice a len cap, .int .i64 (most : Int)] w fun e w' => e = .returned (.slice a (min len most) cap) ∧ w = w' := by
  by_cases h : most < len
  · rw [show min len most = most by omega]
    go_enter Tryd.func10, Tryd.ntmps10
    go_wp2
    go_ret
    exact ⟨rfl, rfl⟩
  · rw [show min len most = len by omega]
    go_enter Tryd.func10, Tryd.ntmps10
    go_wp2
    go_ret
    exact ⟨rfl, rfl⟩
/-- The first so many bytes. -/
theorem cFew {v : Value} {l : List Nat} (most : Nat) (w : World) (h : Bts l v w) (hm : most ≤ 100) : Ret 10 #[v, .int .i64 (most : Int)] w (Bts (l.take most)) := by
  obtain ⟨a, cap, rfl, h1, h2, hv⟩ := h
  refine (few10 a l.length cap most w h1 h2 hm).mono fun e w' ⟨he, hw⟩ => ?_
  subst hw
  refine ⟨_, he, Below.refl _ _, a, cap, ?_, ?_, h2, hv.take most⟩
  · rw [List.length_take, Nat.min_comm]
  · rw [List.length_take]; omega
theorem cLives (w : World) (hT : Tab w) : Ret 13 #[] w (Is (.bool true)) := by
  have hE1 : (bp).nm (valD ([1])) = bp := Pt.nm_one bp
  unfold Ret
  have hO0 : Below w.heap.size w w := Below.refl _ _
  go_enter Tryd.func13, Tryd.ntmps13
  refine wp_seq_k fun K1 hK1 => ?_
  refine wp_plain_inv 1 (specs [Is (.bool false)]) (specs_stb ⟨Is.stb _, trivial⟩) (by kernel_rfl) ?_ ?_
  · refine ⟨fun a w hB hfr hdep => Step.plain rfl (dAssign (R := Is (.bool false)) rfl rfl), trivial⟩
  intro u1 hb1
  simp only [List.take, List.drop, FinAll, Act.put, List.setIfInBounds_toArray, List.set_cons_zero]
  rintro _ rfl
  have hO1 := (hO0).trans (hb1.mono (hO0).size)
  have hT1 := Tab.below hT hb1
  refine hK1 _ _ ?_
  clear hK1 K1
  refine wp_seq_k fun K2 hK2 => ?_
  refine wp_plain_inv 3 (specs [PtV (bp), Own u1.heap.size (digs 32 (Pt.enc (bp))), Own u1.heap.size (digs 32 (Pt.enc (bp)))]) (specs_stb ⟨PtV.stb _, Own.stb _ _, Own.stb _ _, trivial⟩) (by kernel_rfl) ?_ ?_
  · refine ⟨fun a w hB hfr hdep => Step.plain rfl (Does.call 16 #[] (by kernel_rfl) (cBase w (Tab.below hT1 hB))),
      fun a w hB hfr hdep => Step.plain rfl (Does.call 14 #[(a.eval (.tmp 2))] (by kernel_rfl) (ownLo hB.size (cPBytes w w (hdep 0 2 (by kernel_rfl))))),
      fun a w hB hfr hdep => Step.plain rfl (dAssign (R := Own u1.heap.size (digs 32 (Pt.enc (bp)))) rfl (hdep 1 3 (by kernel_rfl))), trivial⟩
  intro u2 hb2
  simp only [List.take, List.drop, FinAll, Act.put, List.setIfInBounds_toArray, List.set_cons_succ, List.set_cons_zero]
  rintro v2_2 h2_2 v3_2 h3_2 v1_2 h1_2
  have hO2 := (hO1).trans (hb2.mono (hO1).size)
  have hT2 := Tab.below hT1 hb2
  refine hK2 _ _ ?_
  clear hK2 K2
  obtain ⟨gb, hvb, hlb, hrow⟩ := h1_2
  rw [digs_len] at hvb
  subst hvb
  refine wp_seq_k fun K3 hK3 => ?_
  refine wp_plain_inv 35 (specs [Is (.slice (some ⟨gb, 0, none⟩) 32 32), Is (.int .i64 32), Is (.bool true), Is (.bool true), Is (.slice (some ⟨gb, 0, none⟩) 32 32), Is (.pointer (some ⟨gb, 0, none⟩)), Is (.int .u8 88), Is (.bool true), Is (.bool true), Is (.bool true), Is (.slice (some ⟨gb, 0, none⟩) 32 32), Is (.pointer (some ⟨gb, 1, none⟩)), Is (.int .u8 102), Is (.bool true), Is (.bool true), Is (.bool true), Is (.slice (some ⟨gb, 0, none⟩) 32 32), Is (.pointer (some ⟨gb, 31, none⟩)), Is (.int .u8 102), Is (.bool true), Is (.bool true), Is (.bool true), PtV (bp), Own u2.heap.size ([1]), PtV ((bp).nm (valD ([1]))), PtV (bp), Is (.bool true), Is (.bool true), Is (.bool true), PtV (bp), PtV (Pt.zero), Is (.bool false), Is (.bool true), Is (.bool true), Is (.bool true)]) (specs_stb ⟨Is.stb _, Is.stb _, Is.stb _, Is.stb _, Is.stb _, Is.stb _, Is.stb _, Is.stb _, Is.stb _, Is.stb _, Is.stb _, Is.stb _, Is.stb _, Is.stb _, Is.stb _, Is.stb _, Is.stb _, Is.stb _, Is.stb _, Is.stb _, Is.stb _, Is.stb _, PtV.stb _, Own.stb _ _, PtV.stb _, PtV.stb _, Is.stb _, Is.stb _, Is.stb _, PtV.stb _, PtV.stb _, Is.stb _, Is.stb _, Is.stb _, Is.stb _, trivial⟩) (by kernel_rfl) ?_ ?_
  · refine ⟨fun a w hB hfr hdep => Step.plain rfl (dMove (R := Is (.slice (some ⟨gb, 0, none⟩) 32 32)) rfl (hfr 1 (by kernel_rfl))),
      fun a w hB hfr hdep => Step.plain rfl (Does.run _ (run_lenO rfl (hdep 0 4 (by kernel_rfl))) rfl),
      fun a w hB hfr hdep => Step.plain rfl (Does.run _ (run_binO rfl (hdep 1 5 (by kernel_rfl)) rfl (by kernel_rfl)) rfl),
      fun a w hB hfr hdep => Step.plain rfl (dMove (R := Is (.bool true)) rfl (hdep 2 6 (by kernel_rfl))),
      fun a w hB hfr hdep => Step.yes 3 7 true rfl rfl (hdep 3 7 (by kernel_rfl)) (dMove (R := Is (.slice (some ⟨gb, 0, none⟩) 32 32)) rfl (hfr 1 (by kernel_rfl))),
      fun a w hB hfr hdep => Step.yes 3 7 true rfl rfl (hdep 3 7 (by kernel_rfl)) (Does.run _ (run_idx22 (i := 0) rfl (hdep 4 8 (by kernel_rfl)) rfl (by decide)) rfl),
      fun a w hB hfr hdep => Step.yes 3 7 true rfl rfl (hdep 3 7 (by kernel_rfl)) (Does.run _ (run_load5 rfl (hdep 5 9 (by kernel_rfl)) (cell_val (block_below hB (lt_of_heap hrow) hrow) 0 (by rw [digs_len]; decide) (bp_b0))) rfl),
      fun a w hB hfr hdep => Step.yes 3 7 true rfl rfl (hdep 3 7 (by kernel_rfl)) (Does.run _ (run_binO rfl (hdep 6 10 (by kernel_rfl)) rfl (by kernel_rfl)) rfl),
      fun a w hB hfr hdep => Step.plain rfl (dPickT rfl (hdep 3 7 (by kernel_rfl)) (hdep 7 11 (by kernel_rfl))),
      fun a w hB hfr hdep => Step.plain rfl (dMove (R := Is (.bool true)) rfl (hdep 8 12 (by kernel_rfl))),
      fun a w hB hfr hdep => Step.yes 9 13 true rfl rfl (hdep 9 13 (by kernel_rfl)) (dMove (R := Is (.slice (some ⟨gb, 0, none⟩) 32 32)) rfl (hfr 1 (by kernel_rfl))),
      fun a w hB hfr hdep => Step.yes 9 13 true rfl rfl (hdep 9 13 (by kernel_rfl)) (Does.run _ (run_idx22 (i := 1) rfl (hdep 10 14 (by kernel_rfl)) rfl (by decide)) rfl),
      fun a w hB hfr hdep => Step.yes 9 13 true rfl rfl (hdep 9 13 (by kernel_rfl)) (Does.run _ (run_load5 rfl (hdep 11 15 (by kernel_rfl)) (cell_val (block_below hB (lt_of_heap hrow) hrow) 1 (by rw [digs_len]; decide) (bp_b1))) rfl),
      fun a w hB hfr hdep => Step.yes 9 13 true rfl rfl (hdep 9 13 (by kernel_rfl)) (Does.run _ (run_binO rfl (hdep 12 16 (by kernel_rfl)) rfl (by kernel_rfl)) rfl),
      fun a w hB hfr hdep => Step.plain rfl (dPickT rfl (hdep 9 13 (by kernel_rfl)) (hdep 13 17 (by kernel_rfl))),
      fun a w hB hfr hdep => Step.plain rfl (dMove (R := Is (.bool true)) rfl (hdep 14 18 (by kernel_rfl))),
      fun a w hB hfr hdep => Step.yes 15 19 true rfl rfl (hdep 15 19 (by kernel_rfl)) (dMove (R := Is (.slice (some ⟨gb, 0, none⟩) 32 32)) rfl (hfr 1 (by kernel_rfl))),
      fun a w hB hfr hdep => Step.yes 15 19 true rfl rfl (hdep 15 19 (by kernel_rfl)) (Does.run _ (run_idx22 (i := 31) rfl (hdep 16 20 (by kernel_rfl)) rfl (by decide)) rfl),
      fun a w hB hfr hdep => Step.yes 15 19 true rfl rfl (hdep 15 19 (by kernel_rfl)) (Does.run _ (run_load5 rfl (hdep 17 21 (by kernel_rfl)) (cell_val (block_below hB (lt_of_heap hrow) hrow) 31 (by rw [digs_len]; decide) (bp_b31))) rfl),
      fun a w hB hfr hdep => Step.yes 15 19 true rfl rfl (hdep 15 19 (by kernel_rfl)) (Does.run _ (run_binO rfl (hdep 18 22 (by kernel_rfl)) rfl (by kernel_rfl)) rfl),
      fun a w hB hfr hdep => Step.plain rfl (dPickT rfl (hdep 15 19 (by kernel_rfl)) (hdep 19 23 (by kernel_rfl))),
      fun a w hB hfr hdep => Step.plain rfl (dMove (R := Is (.bool true)) rfl (hdep 20 24 (by kernel_rfl))),
      fun a w hB hfr hdep => Step.yes 21 25 true rfl rfl (hdep 21 25 (by kernel_rfl)) (Does.call 16 #[] (by kernel_rfl) (cBase w (Tab.below hT2 hB))),
      fun a w hB hfr hdep => Step.yes 21 25 true rfl rfl (hdep 21 25 (by kernel_rfl)) (dSlice1 hB.size rfl rfl),
      fun a w hB hfr hdep => Step.yes 21 25 true rfl rfl (hdep 21 25 (by kernel_rfl)) (Does.call 17 #[(a.eval (.tmp 26)), (a.eval (.tmp 27))] (by kernel_rfl) (cMulP w w (Tab.below hT2 hB) (hdep 22 26 (by kernel_rfl)) (Own.bts (hdep 23 27 (by kernel_rfl)) (by first | decide | (rw [digs_len]; omega) | simp)) (dig_lt (by simp; try omega)) (by first | decide | (rw [digs_len]; omega) | simp))),
      fun a w hB hfr hdep => Step.yes 21 25 true rfl rfl (hdep 21 25 (by kernel_rfl)) (Does.call 16 #[] (by kernel_rfl) (cBase w (Tab.below hT2 hB))),
      fun a w hB hfr hdep => Step.yes 21 25 true rfl rfl (hdep 21 25 (by kernel_rfl)) (Does.call 24 #[(a.eval (.tmp 28)), (a.eval (.tmp 29))] (by kernel_rfl) (cPEqT hE1 w w w (hdep 24 28 (by kernel_rfl)) (hdep 25 29 (by kernel_rfl)))),
      fun a w hB hfr hdep => Step.plain rfl (dPickT rfl (hdep 21 25 (by kernel_rfl)) (hdep 26 30 (by kernel_rfl))),
      fun a w hB hfr hdep => Step.plain rfl (dMove (R := Is (.bool true)) rfl (hdep 27 31 (by kernel_rfl))),
      fun a w hB hfr hdep => Step.yes 28 32 true rfl rfl (hdep 28 32 (by kernel_rfl)) (Does.call 16 #[] (by kernel_rfl) (cBase w (Tab.below hT2 hB))),
      fun a w hB hfr hdep => Step.yes 28 32 true rfl rfl (hdep 28 32 (by kernel_rfl)) (Does.call 25 #[] (by kernel_rfl) (cZero w)),
      fun a w hB hfr hdep => Step.yes 28 32 true rfl rfl (hdep 28 32 (by kernel_rfl)) (Does.call 24 #[(a.eval (.tmp 33)), (a.eval (.tmp 34))] (by kernel_rfl) (cPEqF bp_ne w w w (hdep 29 33 (by kernel_rfl)) (hdep 30 34 (by kernel_rfl)))),
      fun a w hB hfr hdep => Step.yes 28 32 true rfl rfl (hdep 28 32 (by kernel_rfl)) (Does.run _ (run_notO rfl (hdep 31 35 (by kernel_rfl))) rfl),
      fun a w hB hfr hdep => Step.plain rfl (dPickT rfl (hdep 28 32 (by kernel_rfl)) (hdep 32 36 (by kernel_rfl))),
      fun a w hB hfr hdep => Step.plain rfl (dAssign (R := Is (.bool true)) rfl (hdep 33 37 (by kernel_rfl))), trivial⟩
  intro u3 hb3
  simp only [List.take, List.drop, FinAll, Act.put, List.setIfInBounds_toArray, List.set_cons_succ, List.set_cons_zero]
  rintro _ rfl _ rfl _ rfl _ rfl _ rfl _ rfl _ rfl _ rfl _ rfl _ rfl _ rfl _ rfl _ rfl _ rfl _ rfl _ rfl _ rfl _ rfl _ rfl _ rfl _ rfl _ rfl v26_3 h26_3 v27_3 h27_3 v28_3 h28_3 v29_3 h29_3 _ rfl _ rfl _ rfl v33_3 h33_3 v34_3 h34_3 _ rfl _ rfl _ rfl _ rfl
  have hO3 := (hO2).trans (hb3.mono (hO2).size)
  have hrow__3 := block_below hb3 (lt_of_heap hrow) hrow
  have hT3 := Tab.below hT2 hb3
  refine hK3 _ _ ?_
  clear hK3 K3
  refine wp_ret ?_
  refine bodyPost_ret (results_tmp rfl _ _ _) rfl ?_
  exact ⟨_, rfl, hO3, rfl⟩
end Go.Proofs.YtpfcboakafbnlaaDoor
set_option linter.unusedVariables false
namespace Go.Proofs.YtpfcboakafbnlaaDoor
open Go.RowKit Go.Sort Go.BigFrame
set_option maxRecDepth 100000
set_option maxHeartbeats 2000000
theorem curveGroup6 {v1 v2 v3 : Value} {l1 l2 l3 : List Nat} (w : World) (hT : Tab w) (hv1 : Bts l1 v1 w) (hv2 : Bts l2 v2 w) (hv3 : Bts l3 v3 w) (hd1 : Dig l1) (hd2 : Dig l2) (hd3 : Dig l3) : Ret 6 #[v1, v2, v3] w (Is (.bool true)) := by
  unfold Ret
  have hO0 : Below w.heap.size w w := Below.refl _ _
  go_enter Tryd.func6, Tryd.ntmps6
  refine wp_seq_k fun K1 hK1 => ?_
  refine wp_plain_inv 1 (specs [Is (.bool false)]) (specs_stb ⟨Is.stb _, trivial⟩) (by kernel_rfl) ?_ ?_
  · refine ⟨fun a w hB hfr hdep => Step.plain rfl (dAssign (R := Is (.bool false)) rfl rfl), trivial⟩
  intro u1 hb1
  simp only [List.take, List.drop, FinAll, Act.put, List.setIfInBounds_toArray, List.set_cons_succ, List.set_cons_zero]
  rintro _ rfl
  have hO1 := (hO0).trans (hb1.mono (hO0).size)
  have hT1 := Tab.below hT hb1
  refine hK1 _ _ ?_
  clear hK1 K1
  refine wp_seq_k fun K2 hK2 => ?_
  refine wp_plain_inv 5 (specs [PtV (bp), Bts (l1), Bts ((l1).take 32), PtV ((bp).nm (valD ((l1).take 32))), Box u1.heap.size (ptc zeroE zeroE zeroE zeroE) 29]) (specs_stb ⟨PtV.stb _, Bts.stb _, Bts.stb _, PtV.stb _, Box.stb _ _ _, trivial⟩) (by kernel_rfl) ?_ ?_
  · refine ⟨fun a w hB hfr hdep => Step.plain rfl (Does.call 16 #[] (by kernel_rfl) (cBase w (Tab.below hT1 hB))),
      fun a w hB hfr hdep => Step.plain rfl (dMove (R := Bts (l1)) rfl (use (hfr 0 (by kernel_rfl)) ((Bts.stb _) _ _ _ hB ((Bts.stb _) _ _ _ hb1 hv1)))),
      fun a w hB hfr hdep => Step.plain rfl (Does.call 10 #[(a.eval (.tmp 13)), .int .i64 32] (by kernel_rfl) (cFew 32 w (hdep 1 13 (by kernel_rfl)) (by decide))),
      fun a w hB hfr hdep => Step.plain rfl (Does.call 17 #[(a.eval (.tmp 12)), (a.eval (.tmp 14))] (by kernel_rfl) (cMulP w w (Tab.below hT1 hB) (hdep 0 12 (by kernel_rfl)) (hdep 2 14 (by kernel_rfl)) (Dig.take hd1 _) (by rw [List.length_take]; omega))),
      fun a w hB hfr hdep => Step.plain rfl (dAlloc29 hB.size rfl), trivial⟩
  intro u2 hb2
  simp only [List.take, List.drop, FinAll, Act.put, List.setIfInBounds_toArray, List.set_cons_succ, List.set_cons_zero]
  rintro v12_2 h12_2 v13_2 h13_2 v14_2 h14_2 _ ⟨e15_2, rfl, x15_2⟩ _ ⟨g7_2, rfl, l7_2, m7_2⟩
  refine wpList_store_row rfl 29 (.tmp 7) (.tmp 15) rfl _ (e15_2) rfl rfl 29 _ m7_2 (by rw [cellsP_size x15_2]; exact info29) (by rw [cellsP_size x15_2]; rfl) (cellsP_one x15_2) ?_
  have n7_2 := setRow_heap _ _ _ (e15_2) _ _ m7_2
  replace hb2 := setRow_below hb2 l7_2 (e15_2)
  generalize hw2_1 : u2.setRow g7_2 (e15_2) = u2_1 at n7_2 hb2  ⊢
  clear hw2_1 m7_2
  have hO2 := (hO1).trans (hb2.mono (hO1).size)
  have lwn7_2 := Nat.le_trans (hO1).size l7_2
  have hT2 := Tab.below hT1 hb2
  refine hK2 _ _ ?_
  clear hK2 K2
  obtain ⟨p, hp⟩ : ∃ p, p = (bp).nm (valD ((l1).take 32)) := ⟨_, rfl⟩
  rw [← hp] at x15_2
  refine wp_seq_k fun K3 hK3 => ?_
  refine wp_plain_inv 5 (specs [PtV (bp), Bts (l2), Bts ((l2).take 32), PtV ((bp).nm (valD ((l2).take 32))), Box u2_1.heap.size (ptc zeroE zeroE zeroE zeroE) 29]) (specs_stb ⟨PtV.stb _, Bts.stb _, Bts.stb _, PtV.stb _, Box.stb _ _ _, trivial⟩) (by kernel_rfl) ?_ ?_
  · refine ⟨fun a w hB hfr hdep => Step.plain rfl (Does.call 16 #[] (by kernel_rfl) (cBase w (Tab.below hT2 hB))),
      fun a w hB hfr hdep => Step.plain rfl (dMove (R := Bts (l2)) rfl (use (hfr 1 (by kernel_rfl)) ((Bts.stb _) _ _ _ hB ((Bts.stb _) _ _ _ hb2 ((Bts.stb _) _ _ _ hb1 hv2))))),
      fun a w hB hfr hdep => Step.plain rfl (Does.call 10 #[(a.eval (.tmp 17)), .int .i64 32] (by kernel_rfl) (cFew 32 w (hdep 1 17 (by kernel_rfl)) (by decide))),
      fun a w hB hfr hdep => Step.plain rfl (Does.call 17 #[(a.eval (.tmp 16)), (a.eval (.tmp 18))] (by kernel_rfl) (cMulP w w (Tab.below hT2 hB) (hdep 0 16 (by kernel_rfl)) (hdep 2 18 (by kernel_rfl)) (Dig.take hd2 _) (by rw [List.length_take]; omega))),
      fun a w hB hfr hdep => Step.plain rfl (dAlloc29 hB.size rfl), trivial⟩
  intro u3 hb3
  simp only [List.take, List.drop, FinAll, Act.put, List.setIfInBounds_toArray, List.set_cons_succ, List.set_cons_zero]
  rintro v16_3 h16_3 v17_3 h17_3 v18_3 h18_3 _ ⟨e19_3, rfl, x19_3⟩ _ ⟨g8_3, rfl, l8_3, m8_3⟩
  refine wpList_store_row rfl 29 (.tmp 8) (.tmp 19) rfl _ (e19_3) rfl rfl 29 _ m8_3 (by rw [cellsP_size x19_3]; exact info29) (by rw [cellsP_size x19_3]; rfl) (cellsP_one x19_3) ?_
  have n8_3 := setRow_heap _ _ _ (e19_3) _ _ m8_3
  replace hb3 := setRow_below hb3 l8_3 (e19_3)
  generalize hw3_1 : u3.setRow g8_3 (e19_3) = u3_1 at n8_3 hb3  ⊢
  clear hw3_1 m8_3
  have hO3 := (hO2).trans (hb3.mono (hO2).size)
  have n7_2__3 := block_below hb3 (lt_of_heap n7_2) n7_2
  have lwn8_3 := Nat.le_trans (hO2).size l8_3
  have hT3 := Tab.below hT2 hb3
  refine hK3 _ _ ?_
  clear hK3 K3
  obtain ⟨q, hq⟩ : ∃ q, q = (bp).nm (valD ((l2).take 32)) := ⟨_, rfl⟩
  rw [← hq] at x19_3
  refine wp_seq_k fun K4 hK4 => ?_
  refine wp_plain_inv 5 (specs [PtV (bp), Bts (l3), Bts ((l3).take 32), PtV ((bp).nm (valD ((l3).take 32))), Box u3_1.heap.size (ptc zeroE zeroE zeroE zeroE) 29]) (specs_stb ⟨PtV.stb _, Bts.stb _, Bts.stb _, PtV.stb _, Box.stb _ _ _, trivial⟩) (by kernel_rfl) ?_ ?_
  · refine ⟨fun a w hB hfr hdep => Step.plain rfl (Does.call 16 #[] (by kernel_rfl) (cBase w (Tab.below hT3 hB))),
      fun a w hB hfr hdep => Step.plain rfl (dMove (R := Bts (l3)) rfl (use (hfr 2 (by kernel_rfl)) ((Bts.stb _) _ _ _ hB ((Bts.stb _) _ _ _ hb3 ((Bts.stb _) _ _ _ hb2 ((Bts.stb _) _ _ _ hb1 hv3)))))),
      fun a w hB hfr hdep => Step.plain rfl (Does.call 10 #[(a.eval (.tmp 21)), .int .i64 32] (by kernel_rfl) (cFew 32 w (hdep 1 21 (by kernel_rfl)) (by decide))),
      fun a w hB hfr hdep => Step.plain rfl (Does.call 17 #[(a.eval (.tmp 20)), (a.eval (.tmp 22))] (by kernel_rfl) (cMulP w w (Tab.below hT3 hB) (hdep 0 20 (by kernel_rfl)) (hdep 2 22 (by kernel_rfl)) (Dig.take hd3 _) (by rw [List.length_take]; omega))),
      fun a w hB hfr hdep => Step.plain rfl (dAlloc29 hB.size rfl), trivial⟩
  intro u4 hb4
  simp only [List.take, List.drop, FinAll, Act.put, List.setIfInBounds_toArray, List.set_cons_succ, List.set_cons_zero]
  rintro v20_4 h20_4 v21_4 h21_4 v22_4 h22_4 _ ⟨e23_4, rfl, x23_4⟩ _ ⟨g9_4, rfl, l9_4, m9_4⟩
  refine wpList_store_row rfl 29 (.tmp 9) (.tmp 23) rfl _ (e23_4) rfl rfl 29 _ m9_4 (by rw [cellsP_size x23_4]; exact info29) (by rw [cellsP_size x23_4]; rfl) (cellsP_one x23_4) ?_
  have n9_4 := setRow_heap _ _ _ (e23_4) _ _ m9_4
  replace hb4 := setRow_below hb4 l9_4 (e23_4)
  generalize hw4_1 : u4.setRow g9_4 (e23_4) = u4_1 at n9_4 hb4  ⊢
  clear hw4_1 m9_4
  have hO4 := (hO3).trans (hb4.mono (hO3).size)
  have n7_2__4 := block_below hb4 (lt_of_heap n7_2__3) n7_2__3
  have n8_3__4 := block_below hb4 (lt_of_heap n8_3) n8_3
  have lwn9_4 := Nat.le_trans (hO3).size l9_4
  have hT4 := Tab.below hT3 hb4
  refine hK4 _ _ ?_
  clear hK4 K4
  obtain ⟨r, hr⟩ : ∃ r, r = (bp).nm (valD ((l3).take 32)) := ⟨_, rfl⟩
  rw [← hr] at x23_4
  refine wp_seq_k fun K5 hK5 => ?_
  refine wp_region_inv 21 (specs [PtV (p), PtV (q), PtV ((p).add (q)), PtV (q), PtV (p), PtV ((q).add (p)), Is (.bool true), Is (.bool true), PtV (p), PtV (q), PtV ((p).add (q)), PtV (r), PtV (((p).add (q)).add (r)), PtV (p), PtV (q), PtV (r), PtV ((q).add (r)), PtV ((p).add ((q).add (r))), Is (.bool true), Is (.bool true), Is (.bool true)]) (by kernel_rfl) (specs_stb ⟨PtV.stb _, PtV.stb _, PtV.stb _, PtV.stb _, PtV.stb _, PtV.stb _, Is.stb _, Is.stb _, PtV.stb _, PtV.stb _, PtV.stb _, PtV.stb _, PtV.stb _, PtV.stb _, PtV.stb _, PtV.stb _, PtV.stb _, PtV.stb _, Is.stb _, Is.stb _, Is.stb _, trivial⟩) (by kernel_rfl) ?_ ?_
  · refine ⟨fun a w hB hfr hdep => Step.plain rfl (dLoadPt x15_2 (block_below hB (lt_of_heap n7_2__4) n7_2__4) rfl (hfr 7 (by kernel_rfl)) (fun _ h => h)),
      fun a w hB hfr hdep => Step.plain rfl (dLoadPt x19_3 (block_below hB (lt_of_heap n8_3__4) n8_3__4) rfl (hfr 8 (by kernel_rfl)) (fun _ h => h)),
      fun a w hB hfr hdep => Step.plain rfl (Does.call 19 #[(a.eval (.tmp 24)), (a.eval (.tmp 25))] (by kernel_rfl) (cPAdd w w w (Tab.below hT4 hB) (hdep 0 24 (by kernel_rfl)) (hdep 1 25 (by kernel_rfl)))),
      fun a w hB hfr hdep => Step.plain rfl (dLoadPt x19_3 (block_below hB (lt_of_heap n8_3__4) n8_3__4) rfl (hfr 8 (by kernel_rfl)) (fun _ h => h)),
      fun a w hB hfr hdep => Step.plain rfl (dLoadPt x15_2 (block_below hB (lt_of_heap n7_2__4) n7_2__4) rfl (hfr 7 (by kernel_rfl)) (fun _ h => h)),
      fun a w hB hfr hdep => Step.plain rfl (Does.call 19 #[(a.eval (.tmp 27)), (a.eval (.tmp 28))] (by kernel_rfl) (cPAdd w w w (Tab.below hT4 hB) (hdep 3 27 (by kernel_rfl)) (hdep 4 28 (by kernel_rfl)))),
      fun a w hB hfr hdep => Step.plain rfl (Does.call 24 #[(a.eval (.tmp 26)), (a.eval (.tmp 29))] (by kernel_rfl) (cPEqT (Pt.add_comm p q) w w w (hdep 2 26 (by kernel_rfl)) (hdep 5 29 (by kernel_rfl)))),
      fun a w hB hfr hdep => Step.plain rfl (dMove (R := Is (.bool true)) rfl (hdep 6 30 (by kernel_rfl))),
      fun a w hB hfr hdep => Step.yes 7 31 true rfl rfl (hdep 7 31 (by kernel_rfl)) (dLoadPt x15_2 (block_below hB (lt_of_heap n7_2__4) n7_2__4) rfl (hfr 7 (by kernel_rfl)) (fun _ h => h)),
      fun a w hB hfr hdep => Step.yes 7 31 true rfl rfl (hdep 7 31 (by kernel_rfl)) (dLoadPt x19_3 (block_below hB (lt_of_heap n8_3__4) n8_3__4) rfl (hfr 8 (by kernel_rfl)) (fun _ h => h)),
      fun a w hB hfr hdep => Step.yes 7 31 true rfl rfl (hdep 7 31 (by kernel_rfl)) (Does.call 19 #[(a.eval (.tmp 32)), (a.eval (.tmp 33))] (by kernel_rfl) (cPAdd w w w (Tab.below hT4 hB) (hdep 8 32 (by kernel_rfl)) (hdep 9 33 (by kernel_rfl)))),
      fun a w hB hfr hdep => Step.yes 7 31 true rfl rfl (hdep 7 31 (by kernel_rfl)) (dLoadPt x23_4 (block_below hB (lt_of_heap n9_4) n9_4) rfl (hfr 9 (by kernel_rfl)) (fun _ h => h)),
      fun a w hB hfr hdep => Step.yes 7 31 true rfl rfl (hdep 7 31 (by kernel_rfl)) (Does.call 19 #[(a.eval (.tmp 34)), (a.eval (.tmp 35))] (by kernel_rfl) (cPAdd w w w (Tab.below hT4 hB) (hdep 10 34 (by kernel_rfl)) (hdep 11 35 (by kernel_rfl)))),
      fun a w hB hfr hdep => Step.yes 7 31 true rfl rfl (hdep 7 31 (by kernel_rfl)) (dLoadPt x15_2 (block_below hB (lt_of_heap n7_2__4) n7_2__4) rfl (hfr 7 (by kernel_rfl)) (fun _ h => h)),
      fun a w hB hfr hdep => Step.yes 7 31 true rfl rfl (hdep 7 31 (by kernel_rfl)) (dLoadPt x19_3 (block_below hB (lt_of_heap n8_3__4) n8_3__4) rfl (hfr 8 (by kernel_rfl)) (fun _ h => h)),
      fun a w hB hfr hdep => Step.yes 7 31 true rfl rfl (hdep 7 31 (by kernel_rfl)) (dLoadPt x23_4 (block_below hB (lt_of_heap n9_4) n9_4) rfl (hfr 9 (by kernel_rfl)) (fun _ h => h)),
      fun a w hB hfr hdep => Step.yes 7 31 true rfl rfl (hdep 7 31 (by kernel_rfl)) (Does.call 19 #[(a.eval (.tmp 38)), (a.eval (.tmp 39))] (by kernel_rfl) (cPAdd w w w (Tab.below hT4 hB) (hdep 14 38 (by kernel_rfl)) (hdep 15 39 (by kernel_rfl)))),
      fun a w hB hfr hdep => Step.yes 7 31 true rfl rfl (hdep 7 31 (by kernel_rfl)) (Does.call 19 #[(a.eval (.tmp 37)), (a.eval (.tmp 40))] (by kernel_rfl) (cPAdd w w w (Tab.below hT4 hB) (hdep 13 37 (by kernel_rfl)) (hdep 16 40 (by kernel_rfl)))),
      fun a w hB hfr hdep => Step.yes 7 31 true rfl rfl (hdep 7 31 (by kernel_rfl)) (Does.call 24 #[(a.eval (.tmp 36)), (a.eval (.tmp 41))] (by kernel_rfl) (cPEqT (Pt.add_assoc p q r) w w w (hdep 12 36 (by kernel_rfl)) (hdep 17 41 (by kernel_rfl)))),
      fun a w hB hfr hdep => Step.plain rfl (dPickT rfl (hdep 7 31 (by kernel_rfl)) (hdep 18 42 (by kernel_rfl))),
      fun a w hB hfr hdep => Step.plain rfl (dAssign (R := Is (.bool true)) rfl (hdep 19 43 (by kernel_rfl))), trivial⟩
  intro u5 hb5
  simp only [List.take, List.drop, FinAll, Act.put, List.setIfInBounds_toArray, List.set_cons_succ, List.set_cons_zero]
  rintro v24_5 h24_5 v25_5 h25_5 v26_5 h26_5 v27_5 h27_5 v28_5 h28_5 v29_5 h29_5 _ rfl _ rfl v32_5 h32_5 v33_5 h33_5 v34_5 h34_5 v35_5 h35_5 v36_5 h36_5 v37_5 h37_5 v38_5 h38_5 v39_5 h39_5 v40_5 h40_5 v41_5 h41_5 _ rfl _ rfl _ rfl
  have hO5 := (hO4).trans (hb5.mono (hO4).size)
  have n7_2__5 := block_below hb5 (lt_of_heap n7_2__4) n7_2__4
  have n8_3__5 := block_below hb5 (lt_of_heap n8_3__4) n8_3__4
  have n9_4__5 := block_below hb5 (lt_of_heap n9_4) n9_4
  have hT5 := Tab.below hT4 hb5
  refine hK5 _ _ ?_
  clear hK5 K5
  refine wp_seq_k fun K6 hK6 => ?_
  refine wp_region_inv 21 (specs [PtV (p), PtV (Pt.zero), PtV ((p).add (Pt.zero)), PtV (p), Is (.bool true), Is (.bool true), PtV (p), PtV (p), PtV ((p).neg), PtV ((p).add ((p).neg)), PtV (Pt.zero), Is (.bool true), Is (.bool true), Is (.bool true), PtV (p), PtV ((p).neg), PtV (((p).neg).neg), PtV (p), Is (.bool true), Is (.bool true), Is (.bool true)]) (by kernel_rfl) (specs_stb ⟨PtV.stb _, PtV.stb _, PtV.stb _, PtV.stb _, Is.stb _, Is.stb _, PtV.stb _, PtV.stb _, PtV.stb _, PtV.stb _, PtV.stb _, Is.stb _, Is.stb _, Is.stb _, PtV.stb _, PtV.stb _, PtV.stb _, PtV.stb _, Is.stb _, Is.stb _, Is.stb _, trivial⟩) (by kernel_rfl) ?_ ?_
  · refine ⟨fun a w hB hfr hdep => Step.plain rfl (dLoadPt x15_2 (block_below hB (lt_of_heap n7_2__5) n7_2__5) rfl (hfr 7 (by kernel_rfl)) (fun _ h => h)),
      fun a w hB hfr hdep => Step.plain rfl (Does.call 25 #[] (by kernel_rfl) (cZero w)),
      fun a w hB hfr hdep => Step.plain rfl (Does.call 19 #[(a.eval (.tmp 44)), (a.eval (.tmp 45))] (by kernel_rfl) (cPAdd w w w (Tab.below hT5 hB) (hdep 0 44 (by kernel_rfl)) (hdep 1 45 (by kernel_rfl)))),
      fun a w hB hfr hdep => Step.plain rfl (dLoadPt x15_2 (block_below hB (lt_of_heap n7_2__5) n7_2__5) rfl (hfr 7 (by kernel_rfl)) (fun _ h => h)),
      fun a w hB hfr hdep => Step.plain rfl (Does.call 24 #[(a.eval (.tmp 46)), (a.eval (.tmp 47))] (by kernel_rfl) (cPEqT (Pt.add_zero p) w w w (hdep 2 46 (by kernel_rfl)) (hdep 3 47 (by kernel_rfl)))),
      fun a w hB hfr hdep => Step.plain rfl (dMove (R := Is (.bool true)) rfl (hdep 4 48 (by kernel_rfl))),
      fun a w hB hfr hdep => Step.yes 5 49 true rfl rfl (hdep 5 49 (by kernel_rfl)) (dLoadPt x15_2 (block_below hB (lt_of_heap n7_2__5) n7_2__5) rfl (hfr 7 (by kernel_rfl)) (fun _ h => h)),
      fun a w hB hfr hdep => Step.yes 5 49 true rfl rfl (hdep 5 49 (by kernel_rfl)) (dLoadPt x15_2 (block_below hB (lt_of_heap n7_2__5) n7_2__5) rfl (hfr 7 (by kernel_rfl)) (fun _ h => h)),
      fun a w hB hfr hdep => Step.yes 5 49 true rfl rfl (hdep 5 49 (by kernel_rfl)) (Does.call 26 #[(a.eval (.tmp 51))] (by kernel_rfl) (cNeg w w (hdep 7 51 (by kernel_rfl)))),
      fun a w hB hfr hdep => Step.yes 5 49 true rfl rfl (hdep 5 49 (by kernel_rfl)) (Does.call 19 #[(a.eval (.tmp 50)), (a.eval (.tmp 52))] (by kernel_rfl) (cPAdd w w w (Tab.below hT5 hB) (hdep 6 50 (by kernel_rfl)) (hdep 8 52 (by kernel_rfl)))),
      fun a w hB hfr hdep => Step.yes 5 49 true rfl rfl (hdep 5 49 (by kernel_rfl)) (Does.call 25 #[] (by kernel_rfl) (cZero w)),
      fun a w hB hfr hdep => Step.yes 5 49 true rfl rfl (hdep 5 49 (by kernel_rfl)) (Does.call 24 #[(a.eval (.tmp 53)), (a.eval (.tmp 54))] (by kernel_rfl) (cPEqT (Pt.add_neg p) w w w (hdep 9 53 (by kernel_rfl)) (hdep 10 54 (by kernel_rfl)))),
      fun a w hB hfr hdep => Step.plain rfl (dPickT rfl (hdep 5 49 (by kernel_rfl)) (hdep 11 55 (by kernel_rfl))),
      fun a w hB hfr hdep => Step.plain rfl (dMove (R := Is (.bool true)) rfl (hdep 12 56 (by kernel_rfl))),
      fun a w hB hfr hdep => Step.yes 13 57 true rfl rfl (hdep 13 57 (by kernel_rfl)) (dLoadPt x15_2 (block_below hB (lt_of_heap n7_2__5) n7_2__5) rfl (hfr 7 (by kernel_rfl)) (fun _ h => h)),
      fun a w hB hfr hdep => Step.yes 13 57 true rfl rfl (hdep 13 57 (by kernel_rfl)) (Does.call 26 #[(a.eval (.tmp 58))] (by kernel_rfl) (cNeg w w (hdep 14 58 (by kernel_rfl)))),
      fun a w hB hfr hdep => Step.yes 13 57 true rfl rfl (hdep 13 57 (by kernel_rfl)) (Does.call 26 #[(a.eval (.tmp 59))] (by kernel_rfl) (cNeg w w (hdep 15 59 (by kernel_rfl)))),
      fun a w hB hfr hdep => Step.yes 13 57 true rfl rfl (hdep 13 57 (by kernel_rfl)) (dLoadPt x15_2 (block_below hB (lt_of_heap n7_2__5) n7_2__5) rfl (hfr 7 (by kernel_rfl)) (fun _ h => h)),
      fun a w hB hfr hdep => Step.yes 13 57 true rfl rfl (hdep 13 57 (by kernel_rfl)) (Does.call 24 #[(a.eval (.tmp 60)), (a.eval (.tmp 61))] (by kernel_rfl) (cPEqT (Pt.neg_neg p) w w w (hdep 16 60 (by kernel_rfl)) (hdep 17 61 (by kernel_rfl)))),
      fun a w hB hfr hdep => Step.plain rfl (dPickT rfl (hdep 13 57 (by kernel_rfl)) (hdep 18 62 (by kernel_rfl))),
      fun a w hB hfr hdep => Step.plain rfl (dAssign (R := Is (.bool true)) rfl (hdep 19 63 (by kernel_rfl))), trivial⟩
  intro u6 hb6
  simp only [List.take, List.drop, FinAll, Act.put, List.setIfInBounds_toArray, List.set_cons_succ, List.set_cons_zero]
  rintro v44_6 h44_6 v45_6 h45_6 v46_6 h46_6 v47_6 h47_6 _ rfl _ rfl v50_6 h50_6 v51_6 h51_6 v52_6 h52_6 v53_6 h53_6 v54_6 h54_6 _ rfl _ rfl _ rfl v58_6 h58_6 v59_6 h59_6 v60_6 h60_6 v61_6 h61_6 _ rfl _ rfl _ rfl
  have hO6 := (hO5).trans (hb6.mono (hO5).size)
  have n7_2__6 := block_below hb6 (lt_of_heap n7_2__5) n7_2__5
  have n8_3__6 := block_below hb6 (lt_of_heap n8_3__5) n8_3__5
  have n9_4__6 := block_below hb6 (lt_of_heap n9_4__5) n9_4__5
  have hT6 := Tab.below hT5 hb6
  refine hK6 _ _ ?_
  clear hK6 K6
  refine wp_seq_k fun K7 hK7 => ?_
  refine wp_plain_inv 8 (specs [Is (.bool true), Is (.bool true), Is (.bool true), Is (.bool true), Is (.bool true), Is (.bool true), Is (.bool true), Is (.bool true)]) (specs_stb ⟨Is.stb _, Is.stb _, Is.stb _, Is.stb _, Is.stb _, Is.stb _, Is.stb _, Is.stb _, trivial⟩) (by kernel_rfl) ?_ ?_
  · refine ⟨fun a w hB hfr hdep => Step.plain rfl (dMove (R := Is (.bool true)) rfl (hfr 10 (by kernel_rfl))),
      fun a w hB hfr hdep => Step.plain rfl (dMove (R := Is (.bool true)) rfl (hdep 0 64 (by kernel_rfl))),
      fun a w hB hfr hdep => Step.yes 1 65 true rfl rfl (hdep 1 65 (by kernel_rfl)) (dMove (R := Is (.bool true)) rfl (hfr 11 (by kernel_rfl))),
      fun a w hB hfr hdep => Step.plain rfl (dPickT rfl (hdep 1 65 (by kernel_rfl)) (hdep 2 66 (by kernel_rfl))),
      fun a w hB hfr hdep => Step.plain rfl (dMove (R := Is (.bool true)) rfl (hdep 3 67 (by kernel_rfl))),
      fun a w hB hfr hdep => Step.yes 4 68 true rfl rfl (hdep 4 68 (by kernel_rfl)) (Does.call 13 #[] (by kernel_rfl) (cLives w (Tab.below hT6 hB))),
      fun a w hB hfr hdep => Step.plain rfl (dPickT rfl (hdep 4 68 (by kernel_rfl)) (hdep 5 69 (by kernel_rfl))),
      fun a w hB hfr hdep => Step.plain rfl (dAssign (R := Is (.bool true)) rfl (hdep 6 70 (by kernel_rfl))), trivial⟩
  intro u7 hb7
  simp only [List.take, List.drop, FinAll, Act.put, List.setIfInBounds_toArray, List.set_cons_succ, List.set_cons_zero]
  rintro _ rfl _ rfl _ rfl _ rfl _ rfl _ rfl _ rfl _ rfl
  have hO7 := (hO6).trans (hb7.mono (hO6).size)
  have n7_2__7 := block_below hb7 (lt_of_heap n7_2__6) n7_2__6
  have n8_3__7 := block_below hb7 (lt_of_heap n8_3__6) n8_3__6
  have n9_4__7 := block_below hb7 (lt_of_heap n9_4__6) n9_4__6
  have hT7 := Tab.below hT6 hb7
  refine hK7 _ _ ?_
  clear hK7 K7
  refine wp_ret ?_
  refine bodyPost_ret (results_tmp rfl _ _ _) rfl ?_
  exact ⟨_, rfl, hO7, rfl⟩
end Go.Proofs.YtpfcboakafbnlaaDoor
set_option linter.unusedVariables false
namespace Go.Proofs.YtpfcboakafbnlaaDoor
open Go.RowKit Go.Sort Go.BigFrame
set_option maxRecDepth 100000
set_option maxHeartbeats 2000000
section
variable {ρ : Operand → Value} {o : Oper} {x y z t : Operand} {w : World}
theorem run_convertO2 {s t : TypeId} {v : Value} (hr : (convert s t (ρ x)).run Tryd.prog w = .ok v w) (ho : o.op = .convert s t x) : (execOp ρ o).run Tryd.prog w = .ok (.value v) w := by
  unfold execOp
  rw [ho]
  simp only [Sem.run_bind, hr, Result.andThen_ok, Sem.run_pure]
theorem dConvBts {l : List Nat} (ho : o.op = .convert 22 9 x) (h : Bts l (ρ x) w) : Does Tryd.prog o ρ w (fun v w' => Below w.heap.size w w' ∧ Is (.string (strOf l)) v w') := by
  obtain ⟨a, cap, hv, h1, h2, h3⟩ := h
  exact Does.run _ (run_convertO2 (by rw [hv]; exact toString_view rfl h3) ho) rfl
theorem dConvOwn {lo : Nat} {l : List Nat} (ho : o.op = .convert 22 9 x) (h : Own lo l (ρ x) w) : Does Tryd.prog o ρ w (fun v w' => Below w.heap.size w w' ∧ Is (.string (strOf l)) v w') := by
  obtain ⟨g, hv, h1, h2⟩ := h
  exact Does.run _ (run_convertO2 (by rw [hv]; exact toString_view rfl (fun _ => ⟨g, 0, rfl, bytes_row h2⟩)) ho) rfl
theorem run_eqStrB {s t : ByteArray} {b : Bool} (hb : (s.toList == t.toList) = b) (ho : o.op = .binOp .eql 9 x y 9) (hx : ρ x = .string s) (hy : ρ y = .string t) : (execOp ρ o).run Tryd.prog w = .ok (.value (.bool b)) w := by
  rw [← hb]; simp [execOp, ho, hx, hy, go_sem]
end
theorem str_refl (l : List Nat) : ((strOf l).toList == (strOf l).toList) = true := by simp
theorem xor128 (x : Nat) (h : x < 256) : bits .xor .u8 (x : Int) 128 = ((if x < 128 then x + 128 else x - 128 : Nat) : Int) := by
  have : ∀ y < 256, bits .xor .u8 ((y : Nat) : Int) 128 = ((if y < 128 then y + 128 else y - 128 : Nat) : Int) := by decide
  exact this x h
theorem enc_lt (p : Pt) : p.enc < 256 ^ 32 := by have := p.enc_lt; have := t255_lt; omega
theorem valD_enc (p : Pt) : p.enc = valD (digs 32 p.enc) := (valD_digs_lt (enc_lt p)).symm
theorem digs_enc_inj {p q : Pt} (h : digs 32 p.enc = digs 32 q.enc) : p = q := Pt.enc_inj (by rw [valD_enc p, valD_enc q, h])
/-- The negative's bytes. -/
theorem neg_bytes {p : Pt} (h : p ≠ p.neg) {c : Nat} (hc : c = (digs 32 p.enc).getD 31 0) : (digs 32 p.enc).set 31 (if c < 128 then c + 128 else c - 128) = digs 32 p.neg.enc := by
  have hcd := digs_dig 32 p.enc 31
  rw [← hc] at hcd
  have hb := high_bit (digs_len 32 p.enc) (digs_dig 32 p.enc)
  rw [← valD_enc, ← hc] at hb
  refine digs_of ((digs_dig 32 p.enc).set (by split <;> omega)) (by rw [List.length_set, digs_len]) ?_
  have hv := valD_set (digs 32 p.enc) 31 (if c < 128 then c + 128 else c - 128) (by rw [digs_len]; omega)
  rw [← valD_enc, ← hc] at hv
  have h5 := p31
  obtain ⟨q, hq⟩ : ∃ q, q = 256 ^ 31 := ⟨_, rfl⟩
  rw [← hq] at hv h5
  have hne := p.neg_enc h
  have hodd := p.enc_odd
  have hle : t255 * (p.x.val % 2) ≤ p.enc := by unfold Pt.enc; omega
  by_cases hlt : c < 128
  · rw [if_pos hlt] at hv ⊢
    have h0 : p.x.val % 2 = 0 := by rw [← hodd, hb.1]; omega
    rw [if_neg (by omega)] at hne
    rw [hne]
    rw [Nat.mul_add, h5] at hv
    omega
  · rw [if_neg hlt] at hv ⊢
    have h1 : p.x.val % 2 = 1 := by rw [← hodd, hb.1]; omega
    rw [if_pos h1] at hne
    rw [h1, Nat.mul_one] at hle
    rw [hne]
    have e : q * c = q * (c - 128) + t255 := by rw [← h5, ← Nat.mul_add]; congr 1; omega
    omega
theorem own32 {lo : Nat} {n : Nat} {v : Value} {w : World} (h : Own lo (digs 32 n) v w) : ∃ g, v = .slice (some ⟨g, 0, none⟩) 32 32 ∧ lo ≤ g ∧ w.heap[g]? = some (.cells (ints .u8 (digs 32 n)) 5 (0, 0)) := by
  obtain ⟨g, h1, h2, h3⟩ := h
  rw [digs_len] at h1
  exact ⟨g, h1, h2, h3⟩
theorem own_block {lo n g : Nat} {w : World} (h : Own lo (digs 32 n) (.slice (some ⟨g, 0, none⟩) 32 32) w) : g < w.heap.size := by
  obtain ⟨g', h1, _, h3⟩ := h
  injection h1 with h1
  injection h1 with h1
  injection h1 with h1
  rw [h1]; exact lt_of_heap h3
theorem dConvRow {ρ : Operand → Value} {o : Oper} {x : Operand} {w : World} {g t : Nat} {l : List Nat} (ho : o.op = .convert 22 9 x) (hx : ρ x = .slice (some ⟨g, 0, none⟩) 32 32) (h : w.heap[g]? = some (.cells (ints .u8 l) t (0, 0))) (hl : l.length = 32) : Does Tryd.prog o ρ w (fun v w' => Below w.heap.size w w' ∧ Is (.string (strOf l)) v w') :=
  Does.run _ (run_convertO2 (by rw [hx]; exact toString_view hl (fun _ => ⟨g, 0, rfl, bytes_row h⟩)) ho) rfl
theorem Tab.size {w : World} (h : Tab w) : 2 < w.heap.size := block_lt_of_cell (h.t2 0 (by decide))
theorem Tab.setCell {w : World} (h : Tab w) {g k : Nat} {v : Value} (hg : 2 < g) : Tab (w.setCell ⟨g, k, none⟩ v) := by
  have o : ∀ (j : Nat) (l : List Nat), j < 3 → BytesAt w j 0 l → BytesAt (w.setCell ⟨g, k, none⟩ v) j 0 l := fun j l hj hl i hi => by
    rw [World.cell?_setCell_far w ⟨g, k, none⟩ ⟨j, 0 + i, none⟩ v (by show g ≠ j; omega)]; exact hl i hi
  exact ⟨o 0 _ (by omega) h.t0, o 1 _ (by omega) h.t1, o 2 _ (by omega) h.t2⟩
theorem curveNeg9 {v1 : Value} {l1 : List Nat} (w : World) (hT : Tab w) (hv1 : Bts l1 v1 w) (hd1 : Dig l1) : Ret 9 #[v1] w (Is (.bool true)) := by
  unfold Ret
  by_cases hne : ((bp).nm (valD ((l1).take 32))) = ((bp).nm (valD ((l1).take 32))).neg
  · have heq : ((strOf (digs 32 (Pt.enc ((bp).nm (valD ((l1).take 32)))))).toList == (strOf (digs 32 (Pt.enc ((bp).nm (valD ((l1).take 32))).neg))).toList) = true := by rw [← hne]; exact str_refl _
    have hO0 : Below w.heap.size w w := Below.refl _ _
    go_enter Tryd.func9, Tryd.ntmps9
    refine wp_seq_k fun K1 hK1 => ?_
    refine wp_plain_inv 1 (specs [Is (.bool false)]) (specs_stb ⟨Is.stb _, trivial⟩) (by kernel_rfl) ?_ ?_
    · refine ⟨fun a w hB hfr hdep => Step.plain rfl (dAssign (R := Is (.bool false)) rfl rfl), trivial⟩
    intro u1 hb1
    simp only [List.take, List.drop, FinAll, Act.put, List.setIfInBounds_toArray, List.set_cons_succ, List.set_cons_zero]
    rintro _ rfl
    have hO1 := (hO0).trans (hb1.mono (hO0).size)
    have hT1 := Tab.below hT hb1
    refine hK1 _ _ ?_
    clear hK1 K1
    refine wp_seq_k fun K2 hK2 => ?_
    refine wp_plain_inv 5 (specs [PtV (bp), Bts (l1), Bts ((l1).take 32), PtV ((bp).nm (valD ((l1).take 32))), Box u1.heap.size (ptc zeroE zeroE zeroE zeroE) 29]) (specs_stb ⟨PtV.stb _, Bts.stb _, Bts.stb _, PtV.stb _, Box.stb _ _ _, trivial⟩) (by kernel_rfl) ?_ ?_
    · refine ⟨fun a w hB hfr hdep => Step.plain rfl (Does.call 16 #[] (by kernel_rfl) (cBase w (Tab.below hT1 hB))),
        fun a w hB hfr hdep => Step.plain rfl (dMove (R := Bts (l1)) rfl (use (hfr 0 (by kernel_rfl)) ((Bts.stb _) _ _ _ hB ((Bts.stb _) _ _ _ hb1 hv1)))),
        fun a w hB hfr hdep => Step.plain rfl (Does.call 10 #[(a.eval (.tmp 7)), .int .i64 32] (by kernel_rfl) (cFew 32 w (hdep 1 7 (by kernel_rfl)) (by decide))),
        fun a w hB hfr hdep => Step.plain rfl (Does.call 17 #[(a.eval (.tmp 6)), (a.eval (.tmp 8))] (by kernel_rfl) (cMulP w w (Tab.below hT1 hB) (hdep 0 6 (by kernel_rfl)) (hdep 2 8 (by kernel_rfl)) (Dig.take hd1 _) (by rw [List.length_take]; omega))),
        fun a w hB hfr hdep => Step.plain rfl (dAlloc29 hB.size rfl), trivial⟩
    intro u2 hb2
    simp only [List.take, List.drop, FinAll, Act.put, List.setIfInBounds_toArray, List.set_cons_succ, List.set_cons_zero]
    rintro v6_2 h6_2 v7_2 h7_2 v8_2 h8_2 _ ⟨e9_2, rfl, x9_2⟩ _ ⟨g3_2, rfl, l3_2, m3_2⟩
    refine wpList_store_row rfl 29 (.tmp 3) (.tmp 9) rfl _ (e9_2) rfl rfl 29 _ m3_2 (by rw [cellsP_size x9_2]; exact info29) (by rw [cellsP_size x9_2]; rfl) (cellsP_one x9_2) ?_
    have n3_2 := setRow_heap _ _ _ (e9_2) _ _ m3_2
    replace hb2 := setRow_below hb2 l3_2 (e9_2)
    generalize hw2_1 : u2.setRow g3_2 (e9_2) = u2_1 at n3_2 hb2  ⊢
    clear hw2_1 m3_2
    have hO2 := (hO1).trans (hb2.mono (hO1).size)
    have lwn3_2 := Nat.le_trans (hO1).size l3_2
    have hT2 := Tab.below hT1 hb2
    refine hK2 _ _ ?_
    clear hK2 K2
    refine wp_seq_k fun K3 hK3 => ?_
    refine wp_plain_inv 3 (specs [PtV ((bp).nm (valD ((l1).take 32))), Own u2_1.heap.size (digs 32 (Pt.enc ((bp).nm (valD ((l1).take 32))))), Own u2_1.heap.size (digs 32 (Pt.enc ((bp).nm (valD ((l1).take 32)))))]) (specs_stb ⟨PtV.stb _, Own.stb _ _, Own.stb _ _, trivial⟩) (by kernel_rfl) ?_ ?_
    · refine ⟨fun a w hB hfr hdep => Step.plain rfl (dLoadPt x9_2 (block_below hB (lt_of_heap n3_2) n3_2) rfl (hfr 3 (by kernel_rfl)) (fun _ h => h)),
        fun a w hB hfr hdep => Step.plain rfl (Does.call 14 #[(a.eval (.tmp 10))] (by kernel_rfl) (ownLo hB.size (cPBytes w w (hdep 0 10 (by kernel_rfl))))),
        fun a w hB hfr hdep => Step.plain rfl (dAssign (R := Own u2_1.heap.size (digs 32 (Pt.enc ((bp).nm (valD ((l1).take 32)))))) rfl (hdep 1 11 (by kernel_rfl))), trivial⟩
    intro u3 hb3
    simp only [List.take, List.drop, FinAll, Act.put, List.setIfInBounds_toArray, List.set_cons_succ, List.set_cons_zero]
    rintro v10_3 h10_3 v11_3 h11_3 v4_3 h4_3
    have hO3 := (hO2).trans (hb3.mono (hO2).size)
    have n3_2__3 := block_below hb3 (lt_of_heap n3_2) n3_2
    have hT3 := Tab.below hT2 hb3
    refine hK3 _ _ ?_
    clear hK3 K3
    refine wp_seq_k fun K4 hK4 => ?_
    refine wp_plain_inv 4 (specs [PtV ((bp).nm (valD ((l1).take 32))), PtV (((bp).nm (valD ((l1).take 32))).neg), Own u3.heap.size (digs 32 (Pt.enc (((bp).nm (valD ((l1).take 32))).neg))), Own u3.heap.size (digs 32 (Pt.enc (((bp).nm (valD ((l1).take 32))).neg)))]) (specs_stb ⟨PtV.stb _, PtV.stb _, Own.stb _ _, Own.stb _ _, trivial⟩) (by kernel_rfl) ?_ ?_
    · refine ⟨fun a w hB hfr hdep => Step.plain rfl (dLoadPt x9_2 (block_below hB (lt_of_heap n3_2__3) n3_2__3) rfl (hfr 3 (by kernel_rfl)) (fun _ h => h)),
        fun a w hB hfr hdep => Step.plain rfl (Does.call 26 #[(a.eval (.tmp 12))] (by kernel_rfl) (cNeg w w (hdep 0 12 (by kernel_rfl)))),
        fun a w hB hfr hdep => Step.plain rfl (Does.call 14 #[(a.eval (.tmp 13))] (by kernel_rfl) (ownLo hB.size (cPBytes w w (hdep 1 13 (by kernel_rfl))))),
        fun a w hB hfr hdep => Step.plain rfl (dAssign (R := Own u3.heap.size (digs 32 (Pt.enc (((bp).nm (valD ((l1).take 32))).neg)))) rfl (hdep 2 14 (by kernel_rfl))), trivial⟩
    intro u4 hb4
    simp only [List.take, List.drop, FinAll, Act.put, List.setIfInBounds_toArray, List.set_cons_succ, List.set_cons_zero]
    rintro v12_4 h12_4 v13_4 h13_4 v14_4 h14_4 v5_4 h5_4
    have hO4 := (hO3).trans (hb4.mono (hO3).size)
    have n3_2__4 := block_below hb4 (lt_of_heap n3_2__3) n3_2__3
    have hT4 := Tab.below hT3 hb4
    refine hK4 _ _ ?_
    clear hK4 K4
    obtain ⟨gx, egx, lgx, rgx⟩ := own32 ((Own.stb _ _) _ _ _ hb4 h4_3)
    subst egx
    obtain ⟨gy, egy, lgy, rgy⟩ := own32 h5_4
    subst egy
    have ngxy : gy ≠ gx := by have := own_block h4_3; omega
    refine wp_seq_k fun KA hKA => ?_
    refine wp_seq_k fun K5 hK5 => ?_
    refine wp_plain_inv 8 (specs [Is (.slice (some ⟨gx, 0, none⟩) 32 32), Is (.int .i64 32), Is (.bool false), Is (.bool false), Is (.slice (some ⟨gy, 0, none⟩) 32 32), Is (.int .i64 32), Is (.bool false), Is (.bool false)]) (specs_stb ⟨Is.stb _, Is.stb _, Is.stb _, Is.stb _, Is.stb _, Is.stb _, Is.stb _, Is.stb _, trivial⟩) (by kernel_rfl) ?_ ?_
    · refine ⟨fun a w hB hfr hdep => Step.plain rfl (dMove (R := Is (.slice (some ⟨gx, 0, none⟩) 32 32)) rfl (hfr 4 (by kernel_rfl))),
        fun a w hB hfr hdep => Step.plain rfl (Does.run _ (run_lenO rfl (hdep 0 15 (by kernel_rfl))) rfl),
        fun a w hB hfr hdep => Step.plain rfl (Does.run _ (run_binO rfl (hdep 1 16 (by kernel_rfl)) rfl (by kernel_rfl)) rfl),
        fun a w hB hfr hdep => Step.plain rfl (dMove (R := Is (.bool false)) rfl (hdep 2 17 (by kernel_rfl))),
        fun a w hB hfr hdep => Step.yes 3 18 false rfl rfl (hdep 3 18 (by kernel_rfl)) (dMove (R := Is (.slice (some ⟨gy, 0, none⟩) 32 32)) rfl (hfr 5 (by kernel_rfl))),
        fun a w hB hfr hdep => Step.yes 3 18 false rfl rfl (hdep 3 18 (by kernel_rfl)) (Does.run _ (run_lenO rfl (hdep 4 19 (by kernel_rfl))) rfl),
        fun a w hB hfr hdep => Step.yes 3 18 false rfl rfl (hdep 3 18 (by kernel_rfl)) (Does.run _ (run_binO rfl (hdep 5 20 (by kernel_rfl)) rfl (by kernel_rfl)) rfl),
        fun a w hB hfr hdep => Step.plain rfl (dPickF rfl (hdep 3 18 (by kernel_rfl)) (hdep 6 21 (by kernel_rfl))), trivial⟩
    intro u5 hb5
    simp only [List.take, List.drop, FinAll, Act.put, List.setIfInBounds_toArray, List.set_cons_succ, List.set_cons_zero]
    rintro _ rfl _ rfl _ rfl _ rfl _ rfl _ rfl _ rfl _ rfl
    have hO5 := (hO4).trans (hb5.mono (hO4).size)
    have n3_2__5 := block_below hb5 (lt_of_heap n3_2__4) n3_2__4
    have rgx__5 := block_below hb5 (lt_of_heap rgx) rgx
    have rgy__5 := block_below hb5 (lt_of_heap rgy) rgy
    have hT5 := Tab.below hT4 hb5
    refine hK5 _ _ ?_
    clear hK5 K5
    refine wp_cond_false rfl ?_
    refine wp_skip ?_
    refine hKA _ _ ?_
    clear hKA KA
    refine wp_seq_k fun KB hKB => ?_
    refine wp_seq_k fun K6 hK6 => ?_
    refine wp_region_inv 4 (specs [PtV ((bp).nm (valD ((l1).take 32))), PtV ((bp).nm (valD ((l1).take 32))), PtV (((bp).nm (valD ((l1).take 32))).neg), Is (.bool true)]) (by kernel_rfl) (specs_stb ⟨PtV.stb _, PtV.stb _, PtV.stb _, Is.stb _, trivial⟩) (by kernel_rfl) ?_ ?_
    · refine ⟨fun a w hB hfr hdep => Step.plain rfl (dLoadPt x9_2 (block_below hB (lt_of_heap n3_2__5) n3_2__5) rfl (hfr 3 (by kernel_rfl)) (fun _ h => h)),
        fun a w hB hfr hdep => Step.plain rfl (dLoadPt x9_2 (block_below hB (lt_of_heap n3_2__5) n3_2__5) rfl (hfr 3 (by kernel_rfl)) (fun _ h => h)),
        fun a w hB hfr hdep => Step.plain rfl (Does.call 26 #[(a.eval (.tmp 24))] (by kernel_rfl) (cNeg w w (hdep 1 24 (by kernel_rfl)))),
        fun a w hB hfr hdep => Step.plain rfl (Does.call 24 #[(a.eval (.tmp 23)), (a.eval (.tmp 25))] (by kernel_rfl) (cPEqT hne w w w (hdep 0 23 (by kernel_rfl)) (hdep 2 25 (by kernel_rfl)))), trivial⟩
    intro u6 hb6
    simp only [List.take, List.drop, FinAll, Act.put, List.setIfInBounds_toArray, List.set_cons_succ, List.set_cons_zero]
    rintro v23_6 h23_6 v24_6 h24_6 v25_6 h25_6 _ rfl
    have hO6 := (hO5).trans (hb6.mono (hO5).size)
    have n3_2__6 := block_below hb6 (lt_of_heap n3_2__5) n3_2__5
    have rgx__6 := block_below hb6 (lt_of_heap rgx__5) rgx__5
    have rgy__6 := block_below hb6 (lt_of_heap rgy__5) rgy__5
    have hT6 := Tab.below hT5 hb6
    refine hK6 _ _ ?_
    clear hK6 K6
    refine wp_cond_true rfl ?_
    refine wp_seq_k fun K7 hK7 => ?_
    refine wp_plain_inv 9 (specs [Is (.slice (some ⟨gx, 0, none⟩) 32 32), Is (.string (strOf (digs 32 (Pt.enc ((bp).nm (valD ((l1).take 32))))))), Is (.slice (some ⟨gy, 0, none⟩) 32 32), Is (.string (strOf (digs 32 (Pt.enc ((bp).nm (valD ((l1).take 32))).neg)))), Is (.bool true), Is (.bool true), Is (.bool true), Is (.bool true), Is (.bool true)]) (specs_stb ⟨Is.stb _, Is.stb _, Is.stb _, Is.stb _, Is.stb _, Is.stb _, Is.stb _, Is.stb _, Is.stb _, trivial⟩) (by kernel_rfl) ?_ ?_
    · refine ⟨fun a w hB hfr hdep => Step.plain rfl (dMove (R := Is (.slice (some ⟨gx, 0, none⟩) 32 32)) rfl (hfr 4 (by kernel_rfl))),
        fun a w hB hfr hdep => Step.plain rfl (dConvRow rfl (hdep 0 27 (by kernel_rfl)) (block_below hB (lt_of_heap rgx__6) rgx__6) (digs_len _ _)),
        fun a w hB hfr hdep => Step.plain rfl (dMove (R := Is (.slice (some ⟨gy, 0, none⟩) 32 32)) rfl (hfr 5 (by kernel_rfl))),
        fun a w hB hfr hdep => Step.plain rfl (dConvRow rfl (hdep 2 29 (by kernel_rfl)) (block_below hB (lt_of_heap rgy__6) rgy__6) (digs_len _ _)),
        fun a w hB hfr hdep => Step.plain rfl (Does.run _ (run_eqStrB (heq) rfl (hdep 1 28 (by kernel_rfl)) (hdep 3 30 (by kernel_rfl))) rfl),
        fun a w hB hfr hdep => Step.plain rfl (dMove (R := Is (.bool true)) rfl (hdep 4 31 (by kernel_rfl))),
        fun a w hB hfr hdep => Step.yes 5 32 true rfl rfl (hdep 5 32 (by kernel_rfl)) (Does.call 13 #[] (by kernel_rfl) (cLives w (Tab.below hT6 hB))),
        fun a w hB hfr hdep => Step.plain rfl (dPickT rfl (hdep 5 32 (by kernel_rfl)) (hdep 6 33 (by kernel_rfl))),
        fun a w hB hfr hdep => Step.plain rfl (dAssign (R := Is (.bool true)) rfl (hdep 7 34 (by kernel_rfl))), trivial⟩
    intro u7 hb7
    simp only [List.take, List.drop, FinAll, Act.put, List.setIfInBounds_toArray, List.set_cons_succ, List.set_cons_zero]
    rintro _ rfl _ rfl _ rfl _ rfl _ rfl _ rfl _ rfl _ rfl _ rfl
    have hO7 := (hO6).trans (hb7.mono (hO6).size)
    have n3_2__7 := block_below hb7 (lt_of_heap n3_2__6) n3_2__6
    have rgx__7 := block_below hb7 (lt_of_heap rgx__6) rgx__6
    have rgy__7 := block_below hb7 (lt_of_heap rgy__6) rgy__6
    have hT7 := Tab.below hT6 hb7
    refine hK7 _ _ ?_
    clear hK7 K7
    refine wp_ret ?_
    simp only [Exit.then]
    refine bodyPost_ret (results_tmp rfl _ _ _) rfl ?_
    exact ⟨_, rfl, hO7, rfl⟩
  · have hO0 : Below w.heap.size w w := Below.refl _ _
    go_enter Tryd.func9, Tryd.ntmps9
    refine wp_seq_k fun K1 hK1 => ?_
    refine wp_plain_inv 1 (specs [Is (.bool false)]) (specs_stb ⟨Is.stb _, trivial⟩) (by kernel_rfl) ?_ ?_
    · refine ⟨fun a w hB hfr hdep => Step.plain rfl (dAssign (R := Is (.bool false)) rfl rfl), trivial⟩
    intro u1 hb1
    simp only [List.take, List.drop, FinAll, Act.put, List.setIfInBounds_toArray, List.set_cons_succ, List.set_cons_zero]
    rintro _ rfl
    have hO1 := (hO0).trans (hb1.mono (hO0).size)
    have hT1 := Tab.below hT hb1
    refine hK1 _ _ ?_
    clear hK1 K1
    refine wp_seq_k fun K2 hK2 => ?_
    refine wp_plain_inv 5 (specs [PtV (bp), Bts (l1), Bts ((l1).take 32), PtV ((bp).nm (valD ((l1).take 32))), Box u1.heap.size (ptc zeroE zeroE zeroE zeroE) 29]) (specs_stb ⟨PtV.stb _, Bts.stb _, Bts.stb _, PtV.stb _, Box.stb _ _ _, trivial⟩) (by kernel_rfl) ?_ ?_
    · refine ⟨fun a w hB hfr hdep => Step.plain rfl (Does.call 16 #[] (by kernel_rfl) (cBase w (Tab.below hT1 hB))),
        fun a w hB hfr hdep => Step.plain rfl (dMove (R := Bts (l1)) rfl (use (hfr 0 (by kernel_rfl)) ((Bts.stb _) _ _ _ hB ((Bts.stb _) _ _ _ hb1 hv1)))),
        fun a w hB hfr hdep => Step.plain rfl (Does.call 10 #[(a.eval (.tmp 7)), .int .i64 32] (by kernel_rfl) (cFew 32 w (hdep 1 7 (by kernel_rfl)) (by decide))),
        fun a w hB hfr hdep => Step.plain rfl (Does.call 17 #[(a.eval (.tmp 6)), (a.eval (.tmp 8))] (by kernel_rfl) (cMulP w w (Tab.below hT1 hB) (hdep 0 6 (by kernel_rfl)) (hdep 2 8 (by kernel_rfl)) (Dig.take hd1 _) (by rw [List.length_take]; omega))),
        fun a w hB hfr hdep => Step.plain rfl (dAlloc29 hB.size rfl), trivial⟩
    intro u2 hb2
    simp only [List.take, List.drop, FinAll, Act.put, List.setIfInBounds_toArray, List.set_cons_succ, List.set_cons_zero]
    rintro v6_2 h6_2 v7_2 h7_2 v8_2 h8_2 _ ⟨e9_2, rfl, x9_2⟩ _ ⟨g3_2, rfl, l3_2, m3_2⟩
    refine wpList_store_row rfl 29 (.tmp 3) (.tmp 9) rfl _ (e9_2) rfl rfl 29 _ m3_2 (by rw [cellsP_size x9_2]; exact info29) (by rw [cellsP_size x9_2]; rfl) (cellsP_one x9_2) ?_
    have n3_2 := setRow_heap _ _ _ (e9_2) _ _ m3_2
    replace hb2 := setRow_below hb2 l3_2 (e9_2)
    generalize hw2_1 : u2.setRow g3_2 (e9_2) = u2_1 at n3_2 hb2  ⊢
    clear hw2_1 m3_2
    have hO2 := (hO1).trans (hb2.mono (hO1).size)
    have lwn3_2 := Nat.le_trans (hO1).size l3_2
    have hT2 := Tab.below hT1 hb2
    refine hK2 _ _ ?_
    clear hK2 K2
    refine wp_seq_k fun K3 hK3 => ?_
    refine wp_plain_inv 3 (specs [PtV ((bp).nm (valD ((l1).take 32))), Own u2_1.heap.size (digs 32 (Pt.enc ((bp).nm (valD ((l1).take 32))))), Own u2_1.heap.size (digs 32 (Pt.enc ((bp).nm (valD ((l1).take 32)))))]) (specs_stb ⟨PtV.stb _, Own.stb _ _, Own.stb _ _, trivial⟩) (by kernel_rfl) ?_ ?_
    · refine ⟨fun a w hB hfr hdep => Step.plain rfl (dLoadPt x9_2 (block_below hB (lt_of_heap n3_2) n3_2) rfl (hfr 3 (by kernel_rfl)) (fun _ h => h)),
        fun a w hB hfr hdep => Step.plain rfl (Does.call 14 #[(a.eval (.tmp 10))] (by kernel_rfl) (ownLo hB.size (cPBytes w w (hdep 0 10 (by kernel_rfl))))),
        fun a w hB hfr hdep => Step.plain rfl (dAssign (R := Own u2_1.heap.size (digs 32 (Pt.enc ((bp).nm (valD ((l1).take 32)))))) rfl (hdep 1 11 (by kernel_rfl))), trivial⟩
    intro u3 hb3
    simp only [List.take, List.drop, FinAll, Act.put, List.setIfInBounds_toArray, List.set_cons_succ, List.set_cons_zero]
    rintro v10_3 h10_3 v11_3 h11_3 v4_3 h4_3
    have hO3 := (hO2).trans (hb3.mono (hO2).size)
    have n3_2__3 := block_below hb3 (lt_of_heap n3_2) n3_2
    have hT3 := Tab.below hT2 hb3
    refine hK3 _ _ ?_
    clear hK3 K3
    refine wp_seq_k fun K4 hK4 => ?_
    refine wp_plain_inv 4 (specs [PtV ((bp).nm (valD ((l1).take 32))), PtV (((bp).nm (valD ((l1).take 32))).neg), Own u3.heap.size (digs 32 (Pt.enc (((bp).nm (valD ((l1).take 32))).neg))), Own u3.heap.size (digs 32 (Pt.enc (((bp).nm (valD ((l1).take 32))).neg)))]) (specs_stb ⟨PtV.stb _, PtV.stb _, Own.stb _ _, Own.stb _ _, trivial⟩) (by kernel_rfl) ?_ ?_
    · refine ⟨fun a w hB hfr hdep => Step.plain rfl (dLoadPt x9_2 (block_below hB (lt_of_heap n3_2__3) n3_2__3) rfl (hfr 3 (by kernel_rfl)) (fun _ h => h)),
        fun a w hB hfr hdep => Step.plain rfl (Does.call 26 #[(a.eval (.tmp 12))] (by kernel_rfl) (cNeg w w (hdep 0 12 (by kernel_rfl)))),
        fun a w hB hfr hdep => Step.plain rfl (Does.call 14 #[(a.eval (.tmp 13))] (by kernel_rfl) (ownLo hB.size (cPBytes w w (hdep 1 13 (by kernel_rfl))))),
        fun a w hB hfr hdep => Step.plain rfl (dAssign (R := Own u3.heap.size (digs 32 (Pt.enc (((bp).nm (valD ((l1).take 32))).neg)))) rfl (hdep 2 14 (by kernel_rfl))), trivial⟩
    intro u4 hb4
    simp only [List.take, List.drop, FinAll, Act.put, List.setIfInBounds_toArray, List.set_cons_succ, List.set_cons_zero]
    rintro v12_4 h12_4 v13_4 h13_4 v14_4 h14_4 v5_4 h5_4
    have hO4 := (hO3).trans (hb4.mono (hO3).size)
    have n3_2__4 := block_below hb4 (lt_of_heap n3_2__3) n3_2__3
    have hT4 := Tab.below hT3 hb4
    refine hK4 _ _ ?_
    clear hK4 K4
    obtain ⟨gx, egx, lgx, rgx⟩ := own32 ((Own.stb _ _) _ _ _ hb4 h4_3)
    subst egx
    obtain ⟨gy, egy, lgy, rgy⟩ := own32 h5_4
    subst egy
    have ngxy : gy ≠ gx := by have := own_block h4_3; omega
    refine wp_seq_k fun KA hKA => ?_
    refine wp_seq_k fun K5 hK5 => ?_
    refine wp_plain_inv 8 (specs [Is (.slice (some ⟨gx, 0, none⟩) 32 32), Is (.int .i64 32), Is (.bool false), Is (.bool false), Is (.slice (some ⟨gy, 0, none⟩) 32 32), Is (.int .i64 32), Is (.bool false), Is (.bool false)]) (specs_stb ⟨Is.stb _, Is.stb _, Is.stb _, Is.stb _, Is.stb _, Is.stb _, Is.stb _, Is.stb _, trivial⟩) (by kernel_rfl) ?_ ?_
    · refine ⟨fun a w hB hfr hdep => Step.plain rfl (dMove (R := Is (.slice (some ⟨gx, 0, none⟩) 32 32)) rfl (hfr 4 (by kernel_rfl))),
        fun a w hB hfr hdep => Step.plain rfl (Does.run _ (run_lenO rfl (hdep 0 15 (by kernel_rfl))) rfl),
        fun a w hB hfr hdep => Step.plain rfl (Does.run _ (run_binO rfl (hdep 1 16 (by kernel_rfl)) rfl (by kernel_rfl)) rfl),
        fun a w hB hfr hdep => Step.plain rfl (dMove (R := Is (.bool false)) rfl (hdep 2 17 (by kernel_rfl))),
        fun a w hB hfr hdep => Step.yes 3 18 false rfl rfl (hdep 3 18 (by kernel_rfl)) (dMove (R := Is (.slice (some ⟨gy, 0, none⟩) 32 32)) rfl (hfr 5 (by kernel_rfl))),
        fun a w hB hfr hdep => Step.yes 3 18 false rfl rfl (hdep 3 18 (by kernel_rfl)) (Does.run _ (run_lenO rfl (hdep 4 19 (by kernel_rfl))) rfl),
        fun a w hB hfr hdep => Step.yes 3 18 false rfl rfl (hdep 3 18 (by kernel_rfl)) (Does.run _ (run_binO rfl (hdep 5 20 (by kernel_rfl)) rfl (by kernel_rfl)) rfl),
        fun a w hB hfr hdep => Step.plain rfl (dPickF rfl (hdep 3 18 (by kernel_rfl)) (hdep 6 21 (by kernel_rfl))), trivial⟩
    intro u5 hb5
    simp only [List.take, List.drop, FinAll, Act.put, List.setIfInBounds_toArray, List.set_cons_succ, List.set_cons_zero]
    rintro _ rfl _ rfl _ rfl _ rfl _ rfl _ rfl _ rfl _ rfl
    have hO5 := (hO4).trans (hb5.mono (hO4).size)
    have n3_2__5 := block_below hb5 (lt_of_heap n3_2__4) n3_2__4
    have rgx__5 := block_below hb5 (lt_of_heap rgx) rgx
    have rgy__5 := block_below hb5 (lt_of_heap rgy) rgy
    have hT5 := Tab.below hT4 hb5
    refine hK5 _ _ ?_
    clear hK5 K5
    refine wp_cond_false rfl ?_
    refine wp_skip ?_
    refine hKA _ _ ?_
    clear hKA KA
    refine wp_seq_k fun KB hKB => ?_
    refine wp_seq_k fun K6 hK6 => ?_
    refine wp_region_inv 4 (specs [PtV ((bp).nm (valD ((l1).take 32))), PtV ((bp).nm (valD ((l1).take 32))), PtV (((bp).nm (valD ((l1).take 32))).neg), Is (.bool false)]) (by kernel_rfl) (specs_stb ⟨PtV.stb _, PtV.stb _, PtV.stb _, Is.stb _, trivial⟩) (by kernel_rfl) ?_ ?_
    · refine ⟨fun a w hB hfr hdep => Step.plain rfl (dLoadPt x9_2 (block_below hB (lt_of_heap n3_2__5) n3_2__5) rfl (hfr 3 (by kernel_rfl)) (fun _ h => h)),
        fun a w hB hfr hdep => Step.plain rfl (dLoadPt x9_2 (block_below hB (lt_of_heap n3_2__5) n3_2__5) rfl (hfr 3 (by kernel_rfl)) (fun _ h => h)),
        fun a w hB hfr hdep => Step.plain rfl (Does.call 26 #[(a.eval (.tmp 24))] (by kernel_rfl) (cNeg w w (hdep 1 24 (by kernel_rfl)))),
        fun a w hB hfr hdep => Step.plain rfl (Does.call 24 #[(a.eval (.tmp 23)), (a.eval (.tmp 25))] (by kernel_rfl) (cPEqF hne w w w (hdep 0 23 (by kernel_rfl)) (hdep 2 25 (by kernel_rfl)))), trivial⟩
    intro u6 hb6
    simp only [List.take, List.drop, FinAll, Act.put, List.setIfInBounds_toArray, List.set_cons_succ, List.set_cons_zero]
    rintro v23_6 h23_6 v24_6 h24_6 v25_6 h25_6 _ rfl
    have hO6 := (hO5).trans (hb6.mono (hO5).size)
    have n3_2__6 := block_below hb6 (lt_of_heap n3_2__5) n3_2__5
    have rgx__6 := block_below hb6 (lt_of_heap rgx__5) rgx__5
    have rgy__6 := block_below hb6 (lt_of_heap rgy__5) rgy__5
    have hT6 := Tab.below hT5 hb6
    refine hK6 _ _ ?_
    clear hK6 K6
    refine wp_cond_false rfl ?_
    refine wp_skip ?_
    refine hKB _ _ ?_
    clear hKB KB
    have c31 := cell_ints rgx__6 31 (by rw [digs_len]; omega)
    have f31 := free_ints rgx__6 31
    have hcd := digs_dig 32 (Pt.enc ((bp).nm (valD ((l1).take 32)))) 31
    obtain ⟨c, hcc⟩ : ∃ c, c = (digs 32 (Pt.enc ((bp).nm (valD ((l1).take 32))))).getD 31 0 := ⟨_, rfl⟩
    rw [← hcc] at c31 hcd
    have hx := xor128 c hcd
    have hnb := neg_bytes hne hcc
    obtain ⟨d, hdd⟩ : ∃ d, d = (if c < 128 then c + 128 else c - 128) := ⟨_, rfl⟩
    rw [← hdd] at hx hnb
    have hrx := set_ints rgx__6 31 d
    rw [hnb] at hrx
    have hry := (heap_setCell_other u6 ⟨gx, 31, none⟩ gy (.int .u8 (d : Int)) ngxy).trans rgy__6
    have hOs := (hO6).setCell (p := ⟨gx, 31, none⟩) (by show _ ≤ gx; have := hO2.size; omega) (.int .u8 (d : Int))
    have hTs : Tab (u6.setCell ⟨gx, 31, none⟩ (.int .u8 (d : Int))) := hT6.setCell (by show 2 < gx; have := hT.size; have := hO2.size; omega)
    have HRX : Hid _ := hrx
    have HRY : Hid _ := hry
    have HOS : Hid _ := hOs
    have HTS : Hid _ := hTs
    clear hrx hry hOs hTs hnb hcc hdd
    refine wp_seq_k fun KC hKC => ?_
    have HKC : Hid _ := hKC
    clear hKC
    go_wp2
    refine HKC.out _ _ ?_
    clear HKC KC
    have hrx := HRX.out
    have hry := HRY.out
    have hO := HOS.out
    have hT9 := HTS.out
    clear HRX HRY HOS HTS c31 f31
    generalize u6.setCell ⟨gx, 31, none⟩ (.int .u8 (d : Int)) = uu at hrx hry hO hT9 ⊢
    refine wp_seq_k fun K7 hK7 => ?_
    refine wp_plain_inv 9 (specs [Is (.slice (some ⟨gx, 0, none⟩) 32 32), Is (.string (strOf (digs 32 (Pt.enc ((bp).nm (valD ((l1).take 32))).neg)))), Is (.slice (some ⟨gy, 0, none⟩) 32 32), Is (.string (strOf (digs 32 (Pt.enc ((bp).nm (valD ((l1).take 32))).neg)))), Is (.bool true), Is (.bool true), Is (.bool true), Is (.bool true), Is (.bool true)]) (specs_stb ⟨Is.stb _, Is.stb _, Is.stb _, Is.stb _, Is.stb _, Is.stb _, Is.stb _, Is.stb _, Is.stb _, trivial⟩) (by kernel_rfl) ?_ ?_
    · refine ⟨fun a w hB hfr hdep => Step.plain rfl (dMove (R := Is (.slice (some ⟨gx, 0, none⟩) 32 32)) rfl (hfr 4 (by kernel_rfl))),
        fun a w hB hfr hdep => Step.plain rfl (dConvRow rfl (hdep 0 41 (by kernel_rfl)) (block_below hB (lt_of_heap hrx) hrx) (digs_len _ _)),
        fun a w hB hfr hdep => Step.plain rfl (dMove (R := Is (.slice (some ⟨gy, 0, none⟩) 32 32)) rfl (hfr 5 (by kernel_rfl))),
        fun a w hB hfr hdep => Step.plain rfl (dConvRow rfl (hdep 2 43 (by kernel_rfl)) (block_below hB (lt_of_heap hry) hry) (digs_len _ _)),
        fun a w hB hfr hdep => Step.plain rfl (Does.run _ (run_eqStrB (str_refl _) rfl (hdep 1 42 (by kernel_rfl)) (hdep 3 44 (by kernel_rfl))) rfl),
        fun a w hB hfr hdep => Step.plain rfl (dMove (R := Is (.bool true)) rfl (hdep 4 45 (by kernel_rfl))),
        fun a w hB hfr hdep => Step.yes 5 46 true rfl rfl (hdep 5 46 (by kernel_rfl)) (Does.call 13 #[] (by kernel_rfl) (cLives w (Tab.below hT9 hB))),
        fun a w hB hfr hdep => Step.plain rfl (dPickT rfl (hdep 5 46 (by kernel_rfl)) (hdep 6 47 (by kernel_rfl))),
        fun a w hB hfr hdep => Step.plain rfl (dAssign (R := Is (.bool true)) rfl (hdep 7 48 (by kernel_rfl))), trivial⟩
    intro u7 hb7
    simp only [List.take, List.drop, FinAll, Act.put, List.setIfInBounds_toArray, List.set_cons_succ, List.set_cons_zero]
    rintro _ rfl _ rfl _ rfl _ rfl _ rfl _ rfl _ rfl _ rfl _ rfl
    have hO7 := (hO).trans (hb7.mono (hO).size)
    have hrx__7 := block_below hb7 (lt_of_heap hrx) hrx
    have hry__7 := block_below hb7 (lt_of_heap hry) hry
    have hT7 := Tab.below hT9 hb7
    refine hK7 _ _ ?_
    clear hK7 K7
    refine wp_ret ?_
    refine bodyPost_ret (results_tmp rfl _ _ _) rfl ?_
    exact ⟨_, rfl, hO7, rfl⟩

end Go.Proofs.YtpfcboakafbnlaaDoor
