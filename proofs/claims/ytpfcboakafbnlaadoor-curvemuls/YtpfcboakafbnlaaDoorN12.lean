/-
  Read, the whole.
-/
import Derived.Test.YtpfcboakafbnlaaDoorN11
set_option linter.unusedVariables false
namespace Go.Proofs.YtpfcboakafbnlaaDoor
open Go.RowKit Go.Sort Go.BigFrame
set_option maxRecDepth 100000
set_option maxHeartbeats 2000000
theorem run_lenO {ρ : Operand → Value} {o : Oper} {x : Operand} {a : Option Addr} {len cap : Nat} {w : World} (ho : o.op = .call { callee := .builtin .len, args := #[x], argTypes := #[22] }) (hx : ρ x = .slice a len cap) :
    (execOp ρ o).run Tryd.prog w = .ok (.value (.int .i64 (len : Int))) w := by
  simp [execOp, ho, resolve, invoke, hx, go_sem]
theorem run_neq32 {ρ : Operand → Value} {o : Oper} {x y : Operand} {w : World} {n : Nat} (h : n ≠ 32) (ho : o.op = .binOp .neq 3 x y 3) (hx : ρ x = .int .i64 (n : Int)) (hy : ρ y = .int .i64 32) : (execOp ρ o).run Tryd.prog w = .ok (.value (.bool true)) w := by
  have h' : ((n : Int) != 32) = true := by simp; omega
  simp [execOp, ho, hx, hy, go_sem, h']
theorem e8_ex : ∃ e, valD tab3.reverse = e ∧ 8 * e = pp + 3 := ⟨_, rfl, by decide⟩
theorem cReadLen (ad : Option Addr) (len cap : Nat) (w : World) (h : len ≠ 32) : Ret 11 #[.slice ad len cap] w (Tup2 (Is (.agg (ptc zeroE zeroE zeroE zeroE))) (Is (.int .i64 2))) := by
  unfold Ret
  have hO0 : Below w.heap.size w w := Below.refl _ _
  go_enter Tryd.func11, Tryd.ntmps11
  refine wp_seq_k fun K1 hK1 => ?_
  refine wp_plain_inv 2 (specs [Box w.heap.size (ptc zeroE zeroE zeroE zeroE) 29, Is (.int .i64 0)]) (specs_stb ⟨Box.stb _ _ _, Is.stb _, trivial⟩) (by kernel_rfl) ?_ ?_
  · refine ⟨fun a w hB hfr hdep => Step.plain rfl (dAlloc29 hB.size rfl),
      fun a w hB hfr hdep => Step.plain rfl (dAssign (R := Is (.int .i64 0)) rfl rfl), trivial⟩
  intro u1 hb1
  simp only [List.take, List.drop, FinAll, Act.put, List.setIfInBounds_toArray, List.set_cons_succ, List.set_cons_zero]
  rintro _ ⟨g2_1, rfl, l2_1, m2_1⟩ _ rfl
  have hO1 := (hO0).trans (hb1.mono (hO0).size)
  have lwm2_1 := Nat.le_trans (hO0).size l2_1
  refine hK1 _ _ ?_
  clear hK1 K1
  refine wp_seq_k fun KO hKO => ?_
  refine wp_seq_k fun K2 hK2 => ?_
  refine wp_plain_inv 3 (specs [Is (.slice ad len cap), Is (.int .i64 (len : Int)), Is (.bool true)]) (specs_stb ⟨Is.stb _, Is.stb _, Is.stb _, trivial⟩) (by kernel_rfl) ?_ ?_
  · refine ⟨fun a w hB hfr hdep => Step.plain rfl (dMove (R := Is (.slice ad len cap)) rfl (hfr 0 (by kernel_rfl))),
      fun a w hB hfr hdep => Step.plain rfl (Does.run _ (run_lenO rfl (hdep 0 10 (by kernel_rfl))) rfl),
      fun a w hB hfr hdep => Step.plain rfl (Does.run _ (run_neq32 h rfl (hdep 1 11 (by kernel_rfl)) rfl) rfl), trivial⟩
  intro u2 hb2
  simp only [List.take, List.drop, FinAll, Act.put, List.setIfInBounds_toArray, List.set_cons_succ, List.set_cons_zero]
  rintro _ rfl _ rfl _ rfl
  have hO2 := (hO1).trans (hb2.mono (hO1).size)
  have m2_1__2 := block_below hb2 (lt_of_heap m2_1) m2_1
  refine hK2 _ _ ?_
  clear hK2 K2
  refine wp_cond_true rfl ?_
  refine wp_seq_k fun K3 hK3 => ?_
  refine wp_plain_inv 1 (specs [Is (.agg (ptc zeroE zeroE zeroE zeroE))]) (specs_stb ⟨Is.stb _, trivial⟩) (by kernel_rfl) ?_ ?_
  · refine ⟨fun a w hB hfr hdep => Step.plain rfl (Does.run _ (bu29z rfl) rfl), trivial⟩
  intro u3 hb3
  simp only [List.take, List.drop, FinAll, Act.put, List.setIfInBounds_toArray, List.set_cons_succ, List.set_cons_zero]
  rintro _ rfl
  have om2_1__2 := block_below hb3 (lt_of_heap m2_1__2) m2_1__2
  refine wpList_store_row rfl 29 (.tmp 2) (.tmp 13) rfl _ (ptc zeroE zeroE zeroE zeroE) rfl rfl 29 _ om2_1__2 info29 rfl (ptc_one _ _ _ _) ?_
  refine wpList_assign rfl rfl rfl ?_
  simp only [Act.put, Act.eval, List.setIfInBounds_toArray, List.set_cons_succ, List.set_cons_zero]
  have n2_3 := setRow_heap _ _ _ (ptc zeroE zeroE zeroE zeroE) _ _ om2_1__2
  have hO3 := setRow_below (hO2.trans (hb3.mono (hO2).size)) lwm2_1 (ptc zeroE zeroE zeroE zeroE)
  refine hK3 _ _ ?_
  clear hK3 K3
  refine wp_ret ?_
  simp only [Exit.then]
  refine bodyPost_ret (v := .tuple #[.agg (ptc zeroE zeroE zeroE zeroE), .int .i64 2]) ?_ rfl ⟨_, rfl, hO3, ⟨_, _, rfl, rfl, rfl⟩⟩
  exact results_cell_tmp Tryd.results11 _ _ _ 29 _ (0, 0) _ _ rfl rfl n2_3 Tryd.underlying29 rfl (by first | exact info26 | exact info29 | exact info35 | (rw [(Pt4.cells (by assumption)).1]; exact info29) | (rw [cellsP_size (by assumption)]; exact info29))
theorem bit_of {c n : Nat} (hc : c < 256) (h : n / t255 = c / 128) : decide (128 ≤ c) = decide (n / t255 = 1) := by
  rw [decide_eq_decide, h]; omega
theorem odd_same {x b : Nat} (h : x % 2 = b) : decide (x % 2 = 1) = decide (b = 1) := by rw [h]
theorem odd_diff {x b : Nat} (hb : b < 2) (h : x % 2 ≠ b) : decide (x % 2 = 1) = !decide (b = 1) := by
  by_cases h1 : b = 1
  · rw [decide_eq_true h1, decide_eq_false (by omega)]; rfl
  · rw [decide_eq_false h1, decide_eq_true (by omega)]; rfl
theorem cReadPt {v : Value} {l : List Nat} {p : Pt} (w : World) (hT : Tab5 w) (h : Bts l v w) (hl : l.length = 32) (hd : Dig l) (hp : p.enc = valD l) : Ret 11 #[v] w (Tup2 (PtV p) (Is (.int .i64 0))) := by
  obtain ⟨a, cap, rfl, hc1, hc2, hv⟩ := id h
  obtain ⟨gx, off, rfl, hb⟩ := hv (by omega)
  rw [hl] at h ⊢
  obtain ⟨e, he, he8⟩ := e8_ex
  obtain ⟨q1, q2, q3⟩ := high_bit hl hd
  have h3 := hd 31
  have hcell := hb 31 (by omega)
  obtain ⟨r1, r2, r3, r4⟩ := pt_root he8 hp
  have hbit := bit_of h3 q1
  have hn2 : valD l / t255 < 2 := by rw [q1]; omega
  rw [← q2] at r1 r2 r3 r4
  rcases r4 with ⟨s1, s2⟩ | ⟨s1, s2, s3⟩
  · exact readCC w hT he h hl rfl h3 (andNot128 _ h3) hbit (by rw [List.length_set]; exact hl) (hd.set (by omega)) (block_lt_of_cell hcell) hcell rfl r1 rfl r2 (odd_same s1) s2 r3
  · exact readCD w hT he h hl rfl h3 (andNot128 _ h3) hbit (by rw [List.length_set]; exact hl) (hd.set (by omega)) (block_lt_of_cell hcell) hcell rfl r1 rfl r2 (odd_diff hn2 s1) (odd_same s3) s2 r3
theorem cReadErr {v : Value} {l : List Nat} (w : World) (hT : Tab5 w) (h : Bts l v w) (hl : l.length = 32) (hd : Dig l) (hno : ¬ ∃ p : Pt, p.enc = valD l) : Ret 11 #[v] w (Tup2 (Is (.agg (ptc zeroE zeroE zeroE zeroE))) (Is (.int .i64 2))) := by
  obtain ⟨a, cap, rfl, hc1, hc2, hv⟩ := id h
  obtain ⟨gx, off, rfl, hb⟩ := hv (by omega)
  rw [hl] at h ⊢
  obtain ⟨e, he, he8⟩ := e8_ex
  obtain ⟨q1, q2, q3⟩ := high_bit hl hd
  have h3 := hd 31
  have hcell := hb 31 (by omega)
  have hbit := bit_of h3 q1
  have hn2 : valD l / t255 < 2 := by rw [q1]; omega
  by_cases c1 : valD l % t255 < pp
  · by_cases c2 : rootOf e (av (fe (valD l % t255))) * rootOf e (av (fe (valD l % t255))) = av (fe (valD l % t255))
    · obtain ⟨s1, s2⟩ := no_root he8 q3 hno c1 c2
      rw [← q2] at c1 c2 s1 s2
      exact readCE w hT he h hl rfl h3 (andNot128 _ h3) hbit (by rw [List.length_set]; exact hl) (hd.set (by omega)) (block_lt_of_cell hcell) hcell rfl c1 rfl c2 (odd_diff hn2 s1) (odd_diff hn2 s2)
    · rw [← q2] at c1 c2
      exact readCB w hT he h hl rfl h3 (andNot128 _ h3) hbit (by rw [List.length_set]; exact hl) (hd.set (by omega)) (block_lt_of_cell hcell) hcell rfl c1 rfl c2
  · rw [← q2] at c1
    exact readCA w hT he h hl rfl h3 (andNot128 _ h3) hbit (by rw [List.length_set]; exact hl) (hd.set (by omega)) (block_lt_of_cell hcell) hcell c1
end Go.Proofs.YtpfcboakafbnlaaDoor
