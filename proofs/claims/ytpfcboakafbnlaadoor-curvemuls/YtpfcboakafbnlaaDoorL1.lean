/-
  few, lives.
-/
import Derived.Test.YtpfcboakafbnlaaDoorN12
set_option linter.unusedVariables false
namespace Go.Proofs.YtpfcboakafbnlaaDoor
open Go.RowKit Go.Sort Go.BigFrame
set_option maxRecDepth 100000
set_option maxHeartbeats 2000000
section
variable {ρ : Operand → Value} {o : Oper} {x y z t : Operand} {w : World}
theorem run_idx22 {g off n cap i : Nat} (ho : o.op = .indexAddr 22 x y) (hx : ρ x = .slice (some ⟨g, off, none⟩) n cap) (hy : ρ y = .int .i64 (i : Int)) (hi : i < n) : (execOp ρ o).run Tryd.prog w = .ok (.value (.pointer (some ⟨g, off + i, none⟩))) w := by
  simp [execOp, ho, hx, hy, go_sem, hi]
theorem run_idx33 {g off n cap i : Nat} (ho : o.op = .indexAddr 33 x y) (hx : ρ x = .slice (some ⟨g, off, none⟩) n cap) (hy : ρ y = .int .i64 (i : Int)) (hi : i < n) : (execOp ρ o).run Tryd.prog w = .ok (.value (.pointer (some ⟨g, off + i, none⟩))) w := by
  simp [execOp, ho, hx, hy, go_sem, hi]
theorem run_load5 {p : Addr} {n : Int} (ho : o.op = .load 5 x) (hx : ρ x = .pointer (some p)) (hc : w.cell? p = some (.int .u8 n)) : (execOp ρ o).run Tryd.prog w = .ok (.value (.int .u8 n)) w := by
  simp [execOp, ho, hx, go_sem, hc, Instr.loadAt, Instr.sureAddr]
theorem run_load3 {p : Addr} {n : Int} (ho : o.op = .load 3 x) (hx : ρ x = .pointer (some p)) (hc : w.cell? p = some (.int .i64 n)) : (execOp ρ o).run Tryd.prog w = .ok (.value (.int .i64 n)) w := by
  simp [execOp, ho, hx, go_sem, hc, Instr.loadAt, Instr.sureAddr]
theorem cell_val {g t : Nat} {k : IntKind} {l : List Nat} {v : Nat} (h : w.heap[g]? = some (.cells (ints k l) t (0, 0))) (i : Nat) (hi : i < l.length) (hv : l.getD i 0 = v) : w.cell? ⟨g, i, none⟩ = some (.int k (v : Int)) := by
  rw [← hv]; exact cell_ints h i hi
theorem dSlice1 {lo n : Nat} (hlo : lo ≤ w.heap.size) (ho : o.op = .buildSlice 22 1 #[(0, x)]) (hx : ρ x = .int .u8 (n : Int)) : Does Tryd.prog o ρ w (fun v w' => Below w.heap.size w w' ∧ Own lo [n] v w') :=
  Does.new (.slice (some ⟨w.heap.size, 0, none⟩) 1 1) (.cells #[.int .u8 (n : Int)] 5) (by simp only [execOp, ho, List.map_toArray, List.map, hx]; kernel_rfl) ⟨_, rfl, hlo, heap_alloc_new _ _⟩
end
theorem cPEqT {p q : Pt} (h : p = q) {v1 v2 : Value} (w w0 w1 : World) (h1 : PtV p v1 w0) (h2 : PtV q v2 w1) : Ret 24 #[v1, v2] w (Is (.bool true)) := by
  have := cPEq w w0 w1 h1 h2
  rwa [decide_eq_true h] at this
theorem cPEqF {p q : Pt} (h : ¬ p = q) {v1 v2 : Value} (w w0 w1 : World) (h1 : PtV p v1 w0) (h2 : PtV q v2 w1) : Ret 24 #[v1, v2] w (Is (.bool false)) := by
  have := cPEq w w0 w1 h1 h2
  rwa [decide_eq_false h] at this
theorem bp_b0 : (digs 32 bp.enc).getD 0 0 = 88 := by decide
theorem bp_b1 : (digs 32 bp.enc).getD 1 0 = 102 := by decide
theorem bp_b31 : (digs 32 bp.enc).getD 31 0 = 102 := by decide
theorem few10 (a : Option Addr) (len cap most : Nat) (w : World) (hcap : len ≤ cap) (hcap2 : cap ≤ 9223372036854775807) (hm : most ≤ 100) :
    Calls Tryd.prog 10 #[.slice a len cap, .int .i64 (most : Int)] w fun e w' => e = .returned (.slice a (min len most) cap) ∧ w = w' := by
  by_cases h : most < len
  · rw [show min len most = most by omega]
    go_enter Tryd.func10, Tryd.ntmps10
    go_wp2
    go_ret
    exact ⟨rfl, rfl⟩
  · rw [show min len most = len by omega]
    go_enter Tryd.func10, Tryd.ntmps10
    go_wp2
    go_ret
    exact ⟨rfl, rfl⟩
/-- The first so many bytes. -/
theorem cFew {v : Value} {l : List Nat} (most : Nat) (w : World) (h : Bts l v w) (hm : most ≤ 100) : Ret 10 #[v, .int .i64 (most : Int)] w (Bts (l.take most)) := by
  obtain ⟨a, cap, rfl, h1, h2, hv⟩ := h
  refine (few10 a l.length cap most w h1 h2 hm).mono fun e w' ⟨he, hw⟩ => ?_
  subst hw
  refine ⟨_, he, Below.refl _ _, a, cap, ?_, ?_, h2, hv.take most⟩
  · rw [List.length_take, Nat.min_comm]
  · rw [List.length_take]; omega
theorem cLives (w : World) (hT : Tab w) : Ret 13 #[] w (Is (.bool true)) := by
  have hE1 : (bp).nm (valD ([1])) = bp := Pt.nm_one bp
  unfold Ret
  have hO0 : Below w.heap.size w w := Below.refl _ _
  go_enter Tryd.func13, Tryd.ntmps13
  refine wp_seq_k fun K1 hK1 => ?_
  refine wp_plain_inv 1 (specs [Is (.bool false)]) (specs_stb ⟨Is.stb _, trivial⟩) (by kernel_rfl) ?_ ?_
  · refine ⟨fun a w hB hfr hdep => Step.plain rfl (dAssign (R := Is (.bool false)) rfl rfl), trivial⟩
  intro u1 hb1
  simp only [List.take, List.drop, FinAll, Act.put, List.setIfInBounds_toArray, List.set_cons_zero]
  rintro _ rfl
  have hO1 := (hO0).trans (hb1.mono (hO0).size)
  have hT1 := Tab.below hT hb1
  refine hK1 _ _ ?_
  clear hK1 K1
  refine wp_seq_k fun K2 hK2 => ?_
  refine wp_plain_inv 3 (specs [PtV (bp), Own u1.heap.size (digs 32 (Pt.enc (bp))), Own u1.heap.size (digs 32 (Pt.enc (bp)))]) (specs_stb ⟨PtV.stb _, Own.stb _ _, Own.stb _ _, trivial⟩) (by kernel_rfl) ?_ ?_
  · refine ⟨fun a w hB hfr hdep => Step.plain rfl (Does.call 16 #[] (by kernel_rfl) (cBase w (Tab.below hT1 hB))),
      fun a w hB hfr hdep => Step.plain rfl (Does.call 14 #[(a.eval (.tmp 2))] (by kernel_rfl) (ownLo hB.size (cPBytes w w (hdep 0 2 (by kernel_rfl))))),
      fun a w hB hfr hdep => Step.plain rfl (dAssign (R := Own u1.heap.size (digs 32 (Pt.enc (bp)))) rfl (hdep 1 3 (by kernel_rfl))), trivial⟩
  intro u2 hb2
  simp only [List.take, List.drop, FinAll, Act.put, List.setIfInBounds_toArray, List.set_cons_succ, List.set_cons_zero]
  rintro v2_2 h2_2 v3_2 h3_2 v1_2 h1_2
  have hO2 := (hO1).trans (hb2.mono (hO1).size)
  have hT2 := Tab.below hT1 hb2
  refine hK2 _ _ ?_
  clear hK2 K2
  obtain ⟨gb, hvb, hlb, hrow⟩ := h1_2
  rw [digs_len] at hvb
  subst hvb
  refine wp_seq_k fun K3 hK3 => ?_
  refine wp_plain_inv 35 (specs [Is (.slice (some ⟨gb, 0, none⟩) 32 32), Is (.int .i64 32), Is (.bool true), Is (.bool true), Is (.slice (some ⟨gb, 0, none⟩) 32 32), Is (.pointer (some ⟨gb, 0, none⟩)), Is (.int .u8 88), Is (.bool true), Is (.bool true), Is (.bool true), Is (.slice (some ⟨gb, 0, none⟩) 32 32), Is (.pointer (some ⟨gb, 1, none⟩)), Is (.int .u8 102), Is (.bool true), Is (.bool true), Is (.bool true), Is (.slice (some ⟨gb, 0, none⟩) 32 32), Is (.pointer (some ⟨gb, 31, none⟩)), Is (.int .u8 102), Is (.bool true), Is (.bool true), Is (.bool true), PtV (bp), Own u2.heap.size ([1]), PtV ((bp).nm (valD ([1]))), PtV (bp), Is (.bool true), Is (.bool true), Is (.bool true), PtV (bp), PtV (Pt.zero), Is (.bool false), Is (.bool true), Is (.bool true), Is (.bool true)]) (specs_stb ⟨Is.stb _, Is.stb _, Is.stb _, Is.stb _, Is.stb _, Is.stb _, Is.stb _, Is.stb _, Is.stb _, Is.stb _, Is.stb _, Is.stb _, Is.stb _, Is.stb _, Is.stb _, Is.stb _, Is.stb _, Is.stb _, Is.stb _, Is.stb _, Is.stb _, Is.stb _, PtV.stb _, Own.stb _ _, PtV.stb _, PtV.stb _, Is.stb _, Is.stb _, Is.stb _, PtV.stb _, PtV.stb _, Is.stb _, Is.stb _, Is.stb _, Is.stb _, trivial⟩) (by kernel_rfl) ?_ ?_
  · refine ⟨fun a w hB hfr hdep => Step.plain rfl (dMove (R := Is (.slice (some ⟨gb, 0, none⟩) 32 32)) rfl (hfr 1 (by kernel_rfl))),
      fun a w hB hfr hdep => Step.plain rfl (Does.run _ (run_lenO rfl (hdep 0 4 (by kernel_rfl))) rfl),
      fun a w hB hfr hdep => Step.plain rfl (Does.run _ (run_binO rfl (hdep 1 5 (by kernel_rfl)) rfl (by kernel_rfl)) rfl),
      fun a w hB hfr hdep => Step.plain rfl (dMove (R := Is (.bool true)) rfl (hdep 2 6 (by kernel_rfl))),
      fun a w hB hfr hdep => Step.yes 3 7 true rfl rfl (hdep 3 7 (by kernel_rfl)) (dMove (R := Is (.slice (some ⟨gb, 0, none⟩) 32 32)) rfl (hfr 1 (by kernel_rfl))),
      fun a w hB hfr hdep => Step.yes 3 7 true rfl rfl (hdep 3 7 (by kernel_rfl)) (Does.run _ (run_idx22 (i := 0) rfl (hdep 4 8 (by kernel_rfl)) rfl (by decide)) rfl),
      fun a w hB hfr hdep => Step.yes 3 7 true rfl rfl (hdep 3 7 (by kernel_rfl)) (Does.run _ (run_load5 rfl (hdep 5 9 (by kernel_rfl)) (cell_val (block_below hB (lt_of_heap hrow) hrow) 0 (by rw [digs_len]; decide) (bp_b0))) rfl),
      fun a w hB hfr hdep => Step.yes 3 7 true rfl rfl (hdep 3 7 (by kernel_rfl)) (Does.run _ (run_binO rfl (hdep 6 10 (by kernel_rfl)) rfl (by kernel_rfl)) rfl),
      fun a w hB hfr hdep => Step.plain rfl (dPickT rfl (hdep 3 7 (by kernel_rfl)) (hdep 7 11 (by kernel_rfl))),
      fun a w hB hfr hdep => Step.plain rfl (dMove (R := Is (.bool true)) rfl (hdep 8 12 (by kernel_rfl))),
      fun a w hB hfr hdep => Step.yes 9 13 true rfl rfl (hdep 9 13 (by kernel_rfl)) (dMove (R := Is (.slice (some ⟨gb, 0, none⟩) 32 32)) rfl (hfr 1 (by kernel_rfl))),
      fun a w hB hfr hdep => Step.yes 9 13 true rfl rfl (hdep 9 13 (by kernel_rfl)) (Does.run _ (run_idx22 (i := 1) rfl (hdep 10 14 (by kernel_rfl)) rfl (by decide)) rfl),
      fun a w hB hfr hdep => Step.yes 9 13 true rfl rfl (hdep 9 13 (by kernel_rfl)) (Does.run _ (run_load5 rfl (hdep 11 15 (by kernel_rfl)) (cell_val (block_below hB (lt_of_heap hrow) hrow) 1 (by rw [digs_len]; decide) (bp_b1))) rfl),
      fun a w hB hfr hdep => Step.yes 9 13 true rfl rfl (hdep 9 13 (by kernel_rfl)) (Does.run _ (run_binO rfl (hdep 12 16 (by kernel_rfl)) rfl (by kernel_rfl)) rfl),
      fun a w hB hfr hdep => Step.plain rfl (dPickT rfl (hdep 9 13 (by kernel_rfl)) (hdep 13 17 (by kernel_rfl))),
      fun a w hB hfr hdep => Step.plain rfl (dMove (R := Is (.bool true)) rfl (hdep 14 18 (by kernel_rfl))),
      fun a w hB hfr hdep => Step.yes 15 19 true rfl rfl (hdep 15 19 (by kernel_rfl)) (dMove (R := Is (.slice (some ⟨gb, 0, none⟩) 32 32)) rfl (hfr 1 (by kernel_rfl))),
      fun a w hB hfr hdep => Step.yes 15 19 true rfl rfl (hdep 15 19 (by kernel_rfl)) (Does.run _ (run_idx22 (i := 31) rfl (hdep 16 20 (by kernel_rfl)) rfl (by decide)) rfl),
      fun a w hB hfr hdep => Step.yes 15 19 true rfl rfl (hdep 15 19 (by kernel_rfl)) (Does.run _ (run_load5 rfl (hdep 17 21 (by kernel_rfl)) (cell_val (block_below hB (lt_of_heap hrow) hrow) 31 (by rw [digs_len]; decide) (bp_b31))) rfl),
      fun a w hB hfr hdep => Step.yes 15 19 true rfl rfl (hdep 15 19 (by kernel_rfl)) (Does.run _ (run_binO rfl (hdep 18 22 (by kernel_rfl)) rfl (by kernel_rfl)) rfl),
      fun a w hB hfr hdep => Step.plain rfl (dPickT rfl (hdep 15 19 (by kernel_rfl)) (hdep 19 23 (by kernel_rfl))),
      fun a w hB hfr hdep => Step.plain rfl (dMove (R := Is (.bool true)) rfl (hdep 20 24 (by kernel_rfl))),
      fun a w hB hfr hdep => Step.yes 21 25 true rfl rfl (hdep 21 25 (by kernel_rfl)) (Does.call 16 #[] (by kernel_rfl) (cBase w (Tab.below hT2 hB))),
      fun a w hB hfr hdep => Step.yes 21 25 true rfl rfl (hdep 21 25 (by kernel_rfl)) (dSlice1 hB.size rfl rfl),
      fun a w hB hfr hdep => Step.yes 21 25 true rfl rfl (hdep 21 25 (by kernel_rfl)) (Does.call 17 #[(a.eval (.tmp 26)), (a.eval (.tmp 27))] (by kernel_rfl) (cMulP w w (Tab.below hT2 hB) (hdep 22 26 (by kernel_rfl)) (Own.bts (hdep 23 27 (by kernel_rfl)) (by first | decide | (rw [digs_len]; omega))) (dig_lt (by simp; try omega)) (by first | decide | (rw [digs_len]; omega)))),
      fun a w hB hfr hdep => Step.yes 21 25 true rfl rfl (hdep 21 25 (by kernel_rfl)) (Does.call 16 #[] (by kernel_rfl) (cBase w (Tab.below hT2 hB))),
      fun a w hB hfr hdep => Step.yes 21 25 true rfl rfl (hdep 21 25 (by kernel_rfl)) (Does.call 24 #[(a.eval (.tmp 28)), (a.eval (.tmp 29))] (by kernel_rfl) (cPEqT hE1 w w w (hdep 24 28 (by kernel_rfl)) (hdep 25 29 (by kernel_rfl)))),
      fun a w hB hfr hdep => Step.plain rfl (dPickT rfl (hdep 21 25 (by kernel_rfl)) (hdep 26 30 (by kernel_rfl))),
      fun a w hB hfr hdep => Step.plain rfl (dMove (R := Is (.bool true)) rfl (hdep 27 31 (by kernel_rfl))),
      fun a w hB hfr hdep => Step.yes 28 32 true rfl rfl (hdep 28 32 (by kernel_rfl)) (Does.call 16 #[] (by kernel_rfl) (cBase w (Tab.below hT2 hB))),
      fun a w hB hfr hdep => Step.yes 28 32 true rfl rfl (hdep 28 32 (by kernel_rfl)) (Does.call 25 #[] (by kernel_rfl) (cZero w)),
      fun a w hB hfr hdep => Step.yes 28 32 true rfl rfl (hdep 28 32 (by kernel_rfl)) (Does.call 24 #[(a.eval (.tmp 33)), (a.eval (.tmp 34))] (by kernel_rfl) (cPEqF bp_ne w w w (hdep 29 33 (by kernel_rfl)) (hdep 30 34 (by kernel_rfl)))),
      fun a w hB hfr hdep => Step.yes 28 32 true rfl rfl (hdep 28 32 (by kernel_rfl)) (Does.run _ (run_notO rfl (hdep 31 35 (by kernel_rfl))) rfl),
      fun a w hB hfr hdep => Step.plain rfl (dPickT rfl (hdep 28 32 (by kernel_rfl)) (hdep 32 36 (by kernel_rfl))),
      fun a w hB hfr hdep => Step.plain rfl (dAssign (R := Is (.bool true)) rfl (hdep 33 37 (by kernel_rfl))), trivial⟩
  intro u3 hb3
  simp only [List.take, List.drop, FinAll, Act.put, List.setIfInBounds_toArray, List.set_cons_succ, List.set_cons_zero]
  rintro _ rfl _ rfl _ rfl _ rfl _ rfl _ rfl _ rfl _ rfl _ rfl _ rfl _ rfl _ rfl _ rfl _ rfl _ rfl _ rfl _ rfl _ rfl _ rfl _ rfl _ rfl _ rfl v26_3 h26_3 v27_3 h27_3 v28_3 h28_3 v29_3 h29_3 _ rfl _ rfl _ rfl v33_3 h33_3 v34_3 h34_3 _ rfl _ rfl _ rfl _ rfl
  have hO3 := (hO2).trans (hb3.mono (hO2).size)
  have hrow__3 := block_below hb3 (lt_of_heap hrow) hrow
  have hT3 := Tab.below hT2 hb3
  refine hK3 _ _ ?_
  clear hK3 K3
  refine wp_ret ?_
  refine bodyPost_ret (results_tmp rfl _ _ _) rfl ?_
  exact ⟨_, rfl, hO3, rfl⟩
end Go.Proofs.YtpfcboakafbnlaaDoor
