/-
  The walk of CurveNeg.
-/
import Derived.Test.YtpfcboakafbnlaaDoorL2
set_option linter.unusedVariables false
namespace Go.Proofs.YtpfcboakafbnlaaDoor
open Go.RowKit Go.Sort Go.BigFrame
set_option maxRecDepth 100000
set_option maxHeartbeats 2000000
section
variable {ρ : Operand → Value} {o : Oper} {x y z t : Operand} {w : World}
theorem run_convertO2 {s t : TypeId} {v : Value} (hr : (convert s t (ρ x)).run Tryd.prog w = .ok v w) (ho : o.op = .convert s t x) : (execOp ρ o).run Tryd.prog w = .ok (.value v) w := by
  unfold execOp
  rw [ho]
  simp only [Sem.run_bind, hr, Result.andThen_ok, Sem.run_pure]
theorem dConvBts {l : List Nat} (ho : o.op = .convert 22 9 x) (h : Bts l (ρ x) w) : Does Tryd.prog o ρ w (fun v w' => Below w.heap.size w w' ∧ Is (.string (strOf l)) v w') := by
  obtain ⟨a, cap, hv, h1, h2, h3⟩ := h
  exact Does.run _ (run_convertO2 (by rw [hv]; exact toString_view rfl h3) ho) rfl
theorem dConvOwn {lo : Nat} {l : List Nat} (ho : o.op = .convert 22 9 x) (h : Own lo l (ρ x) w) : Does Tryd.prog o ρ w (fun v w' => Below w.heap.size w w' ∧ Is (.string (strOf l)) v w') := by
  obtain ⟨g, hv, h1, h2⟩ := h
  exact Does.run _ (run_convertO2 (by rw [hv]; exact toString_view rfl (fun _ => ⟨g, 0, rfl, bytes_row h2⟩)) ho) rfl
theorem run_eqStrB {s t : ByteArray} {b : Bool} (hb : (s.toList == t.toList) = b) (ho : o.op = .binOp .eql 9 x y 9) (hx : ρ x = .string s) (hy : ρ y = .string t) : (execOp ρ o).run Tryd.prog w = .ok (.value (.bool b)) w := by
  rw [← hb]; simp [execOp, ho, hx, hy, go_sem]
end
theorem str_refl (l : List Nat) : ((strOf l).toList == (strOf l).toList) = true := by simp
theorem xor128 (x : Nat) (h : x < 256) : bits .xor .u8 (x : Int) 128 = ((if x < 128 then x + 128 else x - 128 : Nat) : Int) := by
  have : ∀ y < 256, bits .xor .u8 ((y : Nat) : Int) 128 = ((if y < 128 then y + 128 else y - 128 : Nat) : Int) := by decide
  exact this x h
theorem enc_lt (p : Pt) : p.enc < 256 ^ 32 := by have := p.enc_lt; have := t255_lt; omega
theorem valD_enc (p : Pt) : p.enc = valD (digs 32 p.enc) := (valD_digs_lt (enc_lt p)).symm
theorem digs_enc_inj {p q : Pt} (h : digs 32 p.enc = digs 32 q.enc) : p = q := Pt.enc_inj (by rw [valD_enc p, valD_enc q, h])
/-- The negative's bytes. -/
theorem neg_bytes {p : Pt} (h : p ≠ p.neg) {c : Nat} (hc : c = (digs 32 p.enc).getD 31 0) : (digs 32 p.enc).set 31 (if c < 128 then c + 128 else c - 128) = digs 32 p.neg.enc := by
  have hcd := digs_dig 32 p.enc 31
  rw [← hc] at hcd
  have hb := high_bit (digs_len 32 p.enc) (digs_dig 32 p.enc)
  rw [← valD_enc, ← hc] at hb
  refine digs_of ((digs_dig 32 p.enc).set (by split <;> omega)) (by rw [List.length_set, digs_len]) ?_
  have hv := valD_set (digs 32 p.enc) 31 (if c < 128 then c + 128 else c - 128) (by rw [digs_len]; omega)
  rw [← valD_enc, ← hc] at hv
  have h5 := p31
  obtain ⟨q, hq⟩ : ∃ q, q = 256 ^ 31 := ⟨_, rfl⟩
  rw [← hq] at hv h5
  have hne := p.neg_enc h
  have hodd := p.enc_odd
  have hle : t255 * (p.x.val % 2) ≤ p.enc := by unfold Pt.enc; omega
  by_cases hlt : c < 128
  · rw [if_pos hlt] at hv ⊢
    have h0 : p.x.val % 2 = 0 := by rw [← hodd, hb.1]; omega
    rw [if_neg (by omega)] at hne
    rw [hne]
    rw [Nat.mul_add, h5] at hv
    omega
  · rw [if_neg hlt] at hv ⊢
    have h1 : p.x.val % 2 = 1 := by rw [← hodd, hb.1]; omega
    rw [if_pos h1] at hne
    rw [h1, Nat.mul_one] at hle
    rw [hne]
    have e : q * c = q * (c - 128) + t255 := by rw [← h5, ← Nat.mul_add]; congr 1; omega
    omega
theorem own32 {lo : Nat} {n : Nat} {v : Value} {w : World} (h : Own lo (digs 32 n) v w) : ∃ g, v = .slice (some ⟨g, 0, none⟩) 32 32 ∧ lo ≤ g ∧ w.heap[g]? = some (.cells (ints .u8 (digs 32 n)) 5 (0, 0)) := by
  obtain ⟨g, h1, h2, h3⟩ := h
  rw [digs_len] at h1
  exact ⟨g, h1, h2, h3⟩
theorem own_block {lo n g : Nat} {w : World} (h : Own lo (digs 32 n) (.slice (some ⟨g, 0, none⟩) 32 32) w) : g < w.heap.size := by
  obtain ⟨g', h1, _, h3⟩ := h
  injection h1 with h1
  injection h1 with h1
  injection h1 with h1
  rw [h1]; exact lt_of_heap h3
theorem dConvRow {ρ : Operand → Value} {o : Oper} {x : Operand} {w : World} {g t : Nat} {l : List Nat} (ho : o.op = .convert 22 9 x) (hx : ρ x = .slice (some ⟨g, 0, none⟩) 32 32) (h : w.heap[g]? = some (.cells (ints .u8 l) t (0, 0))) (hl : l.length = 32) : Does Tryd.prog o ρ w (fun v w' => Below w.heap.size w w' ∧ Is (.string (strOf l)) v w') :=
  Does.run _ (run_convertO2 (by rw [hx]; exact toString_view hl (fun _ => ⟨g, 0, rfl, bytes_row h⟩)) ho) rfl
theorem Tab.size {w : World} (h : Tab w) : 2 < w.heap.size := block_lt_of_cell (h.t2 0 (by decide))
theorem Tab.setCell {w : World} (h : Tab w) {g k : Nat} {v : Value} (hg : 2 < g) : Tab (w.setCell ⟨g, k, none⟩ v) := by
  have o : ∀ (j : Nat) (l : List Nat), j < 3 → BytesAt w j 0 l → BytesAt (w.setCell ⟨g, k, none⟩ v) j 0 l := fun j l hj hl i hi => by
    rw [World.cell?_setCell_far w ⟨g, k, none⟩ ⟨j, 0 + i, none⟩ v (by show g ≠ j; omega)]; exact hl i hi
  exact ⟨o 0 _ (by omega) h.t0, o 1 _ (by omega) h.t1, o 2 _ (by omega) h.t2⟩
theorem curveNeg9 {v1 : Value} {l1 : List Nat} (w : World) (hT : Tab w) (hv1 : Bts l1 v1 w) (hd1 : Dig l1) : Ret 9 #[v1] w (Is (.bool true)) := by
  unfold Ret
  by_cases hne : ((bp).nm (valD ((l1).take 32))) = ((bp).nm (valD ((l1).take 32))).neg
  · have heq : ((strOf (digs 32 (Pt.enc ((bp).nm (valD ((l1).take 32)))))).toList == (strOf (digs 32 (Pt.enc ((bp).nm (valD ((l1).take 32))).neg))).toList) = true := by rw [← hne]; exact str_refl _
    have hO0 : Below w.heap.size w w := Below.refl _ _
    go_enter Tryd.func9, Tryd.ntmps9
    refine wp_seq_k fun K1 hK1 => ?_
    refine wp_plain_inv 1 (specs [Is (.bool false)]) (specs_stb ⟨Is.stb _, trivial⟩) (by kernel_rfl) ?_ ?_
    · refine ⟨fun a w hB hfr hdep => Step.plain rfl (dAssign (R := Is (.bool false)) rfl rfl), trivial⟩
    intro u1 hb1
    simp only [List.take, List.drop, FinAll, Act.put, List.setIfInBounds_toArray, List.set_cons_succ, List.set_cons_zero]
    rintro _ rfl
    have hO1 := (hO0).trans (hb1.mono (hO0).size)
    have hT1 := Tab.below hT hb1
    refine hK1 _ _ ?_
    clear hK1 K1
    refine wp_seq_k fun K2 hK2 => ?_
    refine wp_plain_inv 5 (specs [PtV (bp), Bts (l1), Bts ((l1).take 32), PtV ((bp).nm (valD ((l1).take 32))), Box u1.heap.size (ptc zeroE zeroE zeroE zeroE) 29]) (specs_stb ⟨PtV.stb _, Bts.stb _, Bts.stb _, PtV.stb _, Box.stb _ _ _, trivial⟩) (by kernel_rfl) ?_ ?_
    · refine ⟨fun a w hB hfr hdep => Step.plain rfl (Does.call 16 #[] (by kernel_rfl) (cBase w (Tab.below hT1 hB))),
        fun a w hB hfr hdep => Step.plain rfl (dMove (R := Bts (l1)) rfl (use (hfr 0 (by kernel_rfl)) ((Bts.stb _) _ _ _ hB ((Bts.stb _) _ _ _ hb1 hv1)))),
        fun a w hB hfr hdep => Step.plain rfl (Does.call 10 #[(a.eval (.tmp 7)), .int .i64 32] (by kernel_rfl) (cFew 32 w (hdep 1 7 (by kernel_rfl)) (by decide))),
        fun a w hB hfr hdep => Step.plain rfl (Does.call 17 #[(a.eval (.tmp 6)), (a.eval (.tmp 8))] (by kernel_rfl) (cMulP w w (Tab.below hT1 hB) (hdep 0 6 (by kernel_rfl)) (hdep 2 8 (by kernel_rfl)) (Dig.take hd1 _) (by rw [List.length_take]; omega))),
        fun a w hB hfr hdep => Step.plain rfl (dAlloc29 hB.size rfl), trivial⟩
    intro u2 hb2
    simp only [List.take, List.drop, FinAll, Act.put, List.setIfInBounds_toArray, List.set_cons_succ, List.set_cons_zero]
    rintro v6_2 h6_2 v7_2 h7_2 v8_2 h8_2 _ ⟨e9_2, rfl, x9_2⟩ _ ⟨g3_2, rfl, l3_2, m3_2⟩
    refine wpList_store_row rfl 29 (.tmp 3) (.tmp 9) rfl _ (e9_2) rfl rfl 29 _ m3_2 (by rw [cellsP_size x9_2]; exact info29) (by rw [cellsP_size x9_2]; rfl) (cellsP_one x9_2) ?_
    have n3_2 := setRow_heap _ _ _ (e9_2) _ _ m3_2
    replace hb2 := setRow_below hb2 l3_2 (e9_2)
    generalize hw2_1 : u2.setRow g3_2 (e9_2) = u2_1 at n3_2 hb2  ⊢
    clear hw2_1 m3_2
    have hO2 := (hO1).trans (hb2.mono (hO1).size)
    have lwn3_2 := Nat.le_trans (hO1).size l3_2
    have hT2 := Tab.below hT1 hb2
    refine hK2 _ _ ?_
    clear hK2 K2
    refine wp_seq_k fun K3 hK3 => ?_
    refine wp_plain_inv 3 (specs [PtV ((bp).nm (valD ((l1).take 32))), Own u2_1.heap.size (digs 32 (Pt.enc ((bp).nm (valD ((l1).take 32))))), Own u2_1.heap.size (digs 32 (Pt.enc ((bp).nm (valD ((l1).take 32)))))]) (specs_stb ⟨PtV.stb _, Own.stb _ _, Own.stb _ _, trivial⟩) (by kernel_rfl) ?_ ?_
    · refine ⟨fun a w hB hfr hdep => Step.plain rfl (dLoadPt x9_2 (block_below hB (lt_of_heap n3_2) n3_2) rfl (hfr 3 (by kernel_rfl)) (fun _ h => h)),
        fun a w hB hfr hdep => Step.plain rfl (Does.call 14 #[(a.eval (.tmp 10))] (by kernel_rfl) (ownLo hB.size (cPBytes w w (hdep 0 10 (by kernel_rfl))))),
        fun a w hB hfr hdep => Step.plain rfl (dAssign (R := Own u2_1.heap.size (digs 32 (Pt.enc ((bp).nm (valD ((l1).take 32)))))) rfl (hdep 1 11 (by kernel_rfl))), trivial⟩
    intro u3 hb3
    simp only [List.take, List.drop, FinAll, Act.put, List.setIfInBounds_toArray, List.set_cons_succ, List.set_cons_zero]
    rintro v10_3 h10_3 v11_3 h11_3 v4_3 h4_3
    have hO3 := (hO2).trans (hb3.mono (hO2).size)
    have n3_2__3 := block_below hb3 (lt_of_heap n3_2) n3_2
    have hT3 := Tab.below hT2 hb3
    refine hK3 _ _ ?_
    clear hK3 K3
    refine wp_seq_k fun K4 hK4 => ?_
    refine wp_plain_inv 4 (specs [PtV ((bp).nm (valD ((l1).take 32))), PtV (((bp).nm (valD ((l1).take 32))).neg), Own u3.heap.size (digs 32 (Pt.enc (((bp).nm (valD ((l1).take 32))).neg))), Own u3.heap.size (digs 32 (Pt.enc (((bp).nm (valD ((l1).take 32))).neg)))]) (specs_stb ⟨PtV.stb _, PtV.stb _, Own.stb _ _, Own.stb _ _, trivial⟩) (by kernel_rfl) ?_ ?_
    · refine ⟨fun a w hB hfr hdep => Step.plain rfl (dLoadPt x9_2 (block_below hB (lt_of_heap n3_2__3) n3_2__3) rfl (hfr 3 (by kernel_rfl)) (fun _ h => h)),
        fun a w hB hfr hdep => Step.plain rfl (Does.call 26 #[(a.eval (.tmp 12))] (by kernel_rfl) (cNeg w w (hdep 0 12 (by kernel_rfl)))),
        fun a w hB hfr hdep => Step.plain rfl (Does.call 14 #[(a.eval (.tmp 13))] (by kernel_rfl) (ownLo hB.size (cPBytes w w (hdep 1 13 (by kernel_rfl))))),
        fun a w hB hfr hdep => Step.plain rfl (dAssign (R := Own u3.heap.size (digs 32 (Pt.enc (((bp).nm (valD ((l1).take 32))).neg)))) rfl (hdep 2 14 (by kernel_rfl))), trivial⟩
    intro u4 hb4
    simp only [List.take, List.drop, FinAll, Act.put, List.setIfInBounds_toArray, List.set_cons_succ, List.set_cons_zero]
    rintro v12_4 h12_4 v13_4 h13_4 v14_4 h14_4 v5_4 h5_4
    have hO4 := (hO3).trans (hb4.mono (hO3).size)
    have n3_2__4 := block_below hb4 (lt_of_heap n3_2__3) n3_2__3
    have hT4 := Tab.below hT3 hb4
    refine hK4 _ _ ?_
    clear hK4 K4
    obtain ⟨gx, egx, lgx, rgx⟩ := own32 ((Own.stb _ _) _ _ _ hb4 h4_3)
    subst egx
    obtain ⟨gy, egy, lgy, rgy⟩ := own32 h5_4
    subst egy
    have ngxy : gy ≠ gx := by have := own_block h4_3; omega
    refine wp_seq_k fun KA hKA => ?_
    refine wp_seq_k fun K5 hK5 => ?_
    refine wp_plain_inv 8 (specs [Is (.slice (some ⟨gx, 0, none⟩) 32 32), Is (.int .i64 32), Is (.bool false), Is (.bool false), Is (.slice (some ⟨gy, 0, none⟩) 32 32), Is (.int .i64 32), Is (.bool false), Is (.bool false)]) (specs_stb ⟨Is.stb _, Is.stb _, Is.stb _, Is.stb _, Is.stb _, Is.stb _, Is.stb _, Is.stb _, trivial⟩) (by kernel_rfl) ?_ ?_
    · refine ⟨fun a w hB hfr hdep => Step.plain rfl (dMove (R := Is (.slice (some ⟨gx, 0, none⟩) 32 32)) rfl (hfr 4 (by kernel_rfl))),
        fun a w hB hfr hdep => Step.plain rfl (Does.run _ (run_lenO rfl (hdep 0 15 (by kernel_rfl))) rfl),
        fun a w hB hfr hdep => Step.plain rfl (Does.run _ (run_binO rfl (hdep 1 16 (by kernel_rfl)) rfl (by kernel_rfl)) rfl),
        fun a w hB hfr hdep => Step.plain rfl (dMove (R := Is (.bool false)) rfl (hdep 2 17 (by kernel_rfl))),
        fun a w hB hfr hdep => Step.yes 3 18 false rfl rfl (hdep 3 18 (by kernel_rfl)) (dMove (R := Is (.slice (some ⟨gy, 0, none⟩) 32 32)) rfl (hfr 5 (by kernel_rfl))),
        fun a w hB hfr hdep => Step.yes 3 18 false rfl rfl (hdep 3 18 (by kernel_rfl)) (Does.run _ (run_lenO rfl (hdep 4 19 (by kernel_rfl))) rfl),
        fun a w hB hfr hdep => Step.yes 3 18 false rfl rfl (hdep 3 18 (by kernel_rfl)) (Does.run _ (run_binO rfl (hdep 5 20 (by kernel_rfl)) rfl (by kernel_rfl)) rfl),
        fun a w hB hfr hdep => Step.plain rfl (dPickF rfl (hdep 3 18 (by kernel_rfl)) (hdep 6 21 (by kernel_rfl))), trivial⟩
    intro u5 hb5
    simp only [List.take, List.drop, FinAll, Act.put, List.setIfInBounds_toArray, List.set_cons_succ, List.set_cons_zero]
    rintro _ rfl _ rfl _ rfl _ rfl _ rfl _ rfl _ rfl _ rfl
    have hO5 := (hO4).trans (hb5.mono (hO4).size)
    have n3_2__5 := block_below hb5 (lt_of_heap n3_2__4) n3_2__4
    have rgx__5 := block_below hb5 (lt_of_heap rgx) rgx
    have rgy__5 := block_below hb5 (lt_of_heap rgy) rgy
    have hT5 := Tab.below hT4 hb5
    refine hK5 _ _ ?_
    clear hK5 K5
    refine wp_cond_false rfl ?_
    refine wp_skip ?_
    refine hKA _ _ ?_
    clear hKA KA
    refine wp_seq_k fun KB hKB => ?_
    refine wp_seq_k fun K6 hK6 => ?_
    refine wp_region_inv 4 (specs [PtV ((bp).nm (valD ((l1).take 32))), PtV ((bp).nm (valD ((l1).take 32))), PtV (((bp).nm (valD ((l1).take 32))).neg), Is (.bool true)]) (by kernel_rfl) (specs_stb ⟨PtV.stb _, PtV.stb _, PtV.stb _, Is.stb _, trivial⟩) (by kernel_rfl) ?_ ?_
    · refine ⟨fun a w hB hfr hdep => Step.plain rfl (dLoadPt x9_2 (block_below hB (lt_of_heap n3_2__5) n3_2__5) rfl (hfr 3 (by kernel_rfl)) (fun _ h => h)),
        fun a w hB hfr hdep => Step.plain rfl (dLoadPt x9_2 (block_below hB (lt_of_heap n3_2__5) n3_2__5) rfl (hfr 3 (by kernel_rfl)) (fun _ h => h)),
        fun a w hB hfr hdep => Step.plain rfl (Does.call 26 #[(a.eval (.tmp 24))] (by kernel_rfl) (cNeg w w (hdep 1 24 (by kernel_rfl)))),
        fun a w hB hfr hdep => Step.plain rfl (Does.call 24 #[(a.eval (.tmp 23)), (a.eval (.tmp 25))] (by kernel_rfl) (cPEqT hne w w w (hdep 0 23 (by kernel_rfl)) (hdep 2 25 (by kernel_rfl)))), trivial⟩
    intro u6 hb6
    simp only [List.take, List.drop, FinAll, Act.put, List.setIfInBounds_toArray, List.set_cons_succ, List.set_cons_zero]
    rintro v23_6 h23_6 v24_6 h24_6 v25_6 h25_6 _ rfl
    have hO6 := (hO5).trans (hb6.mono (hO5).size)
    have n3_2__6 := block_below hb6 (lt_of_heap n3_2__5) n3_2__5
    have rgx__6 := block_below hb6 (lt_of_heap rgx__5) rgx__5
    have rgy__6 := block_below hb6 (lt_of_heap rgy__5) rgy__5
    have hT6 := Tab.below hT5 hb6
    refine hK6 _ _ ?_
    clear hK6 K6
    refine wp_cond_true rfl ?_
    refine wp_seq_k fun K7 hK7 => ?_
    refine wp_plain_inv 9 (specs [Is (.slice (some ⟨gx, 0, none⟩) 32 32), Is (.string (strOf (digs 32 (Pt.enc ((bp).nm (valD ((l1).take 32))))))), Is (.slice (some ⟨gy, 0, none⟩) 32 32), Is (.string (strOf (digs 32 (Pt.enc ((bp).nm (valD ((l1).take 32))).neg)))), Is (.bool true), Is (.bool true), Is (.bool true), Is (.bool true), Is (.bool true)]) (specs_stb ⟨Is.stb _, Is.stb _, Is.stb _, Is.stb _, Is.stb _, Is.stb _, Is.stb _, Is.stb _, Is.stb _, trivial⟩) (by kernel_rfl) ?_ ?_
    · refine ⟨fun a w hB hfr hdep => Step.plain rfl (dMove (R := Is (.slice (some ⟨gx, 0, none⟩) 32 32)) rfl (hfr 4 (by kernel_rfl))),
        fun a w hB hfr hdep => Step.plain rfl (dConvRow rfl (hdep 0 27 (by kernel_rfl)) (block_below hB (lt_of_heap rgx__6) rgx__6) (digs_len _ _)),
        fun a w hB hfr hdep => Step.plain rfl (dMove (R := Is (.slice (some ⟨gy, 0, none⟩) 32 32)) rfl (hfr 5 (by kernel_rfl))),
        fun a w hB hfr hdep => Step.plain rfl (dConvRow rfl (hdep 2 29 (by kernel_rfl)) (block_below hB (lt_of_heap rgy__6) rgy__6) (digs_len _ _)),
        fun a w hB hfr hdep => Step.plain rfl (Does.run _ (run_eqStrB (heq) rfl (hdep 1 28 (by kernel_rfl)) (hdep 3 30 (by kernel_rfl))) rfl),
        fun a w hB hfr hdep => Step.plain rfl (dMove (R := Is (.bool true)) rfl (hdep 4 31 (by kernel_rfl))),
        fun a w hB hfr hdep => Step.yes 5 32 true rfl rfl (hdep 5 32 (by kernel_rfl)) (Does.call 13 #[] (by kernel_rfl) (cLives w (Tab.below hT6 hB))),
        fun a w hB hfr hdep => Step.plain rfl (dPickT rfl (hdep 5 32 (by kernel_rfl)) (hdep 6 33 (by kernel_rfl))),
        fun a w hB hfr hdep => Step.plain rfl (dAssign (R := Is (.bool true)) rfl (hdep 7 34 (by kernel_rfl))), trivial⟩
    intro u7 hb7
    simp only [List.take, List.drop, FinAll, Act.put, List.setIfInBounds_toArray, List.set_cons_succ, List.set_cons_zero]
    rintro _ rfl _ rfl _ rfl _ rfl _ rfl _ rfl _ rfl _ rfl _ rfl
    have hO7 := (hO6).trans (hb7.mono (hO6).size)
    have n3_2__7 := block_below hb7 (lt_of_heap n3_2__6) n3_2__6
    have rgx__7 := block_below hb7 (lt_of_heap rgx__6) rgx__6
    have rgy__7 := block_below hb7 (lt_of_heap rgy__6) rgy__6
    have hT7 := Tab.below hT6 hb7
    refine hK7 _ _ ?_
    clear hK7 K7
    refine wp_ret ?_
    simp only [Exit.then]
    refine bodyPost_ret (results_tmp rfl _ _ _) rfl ?_
    exact ⟨_, rfl, hO7, rfl⟩
  · have hO0 : Below w.heap.size w w := Below.refl _ _
    go_enter Tryd.func9, Tryd.ntmps9
    refine wp_seq_k fun K1 hK1 => ?_
    refine wp_plain_inv 1 (specs [Is (.bool false)]) (specs_stb ⟨Is.stb _, trivial⟩) (by kernel_rfl) ?_ ?_
    · refine ⟨fun a w hB hfr hdep => Step.plain rfl (dAssign (R := Is (.bool false)) rfl rfl), trivial⟩
    intro u1 hb1
    simp only [List.take, List.drop, FinAll, Act.put, List.setIfInBounds_toArray, List.set_cons_succ, List.set_cons_zero]
    rintro _ rfl
    have hO1 := (hO0).trans (hb1.mono (hO0).size)
    have hT1 := Tab.below hT hb1
    refine hK1 _ _ ?_
    clear hK1 K1
    refine wp_seq_k fun K2 hK2 => ?_
    refine wp_plain_inv 5 (specs [PtV (bp), Bts (l1), Bts ((l1).take 32), PtV ((bp).nm (valD ((l1).take 32))), Box u1.heap.size (ptc zeroE zeroE zeroE zeroE) 29]) (specs_stb ⟨PtV.stb _, Bts.stb _, Bts.stb _, PtV.stb _, Box.stb _ _ _, trivial⟩) (by kernel_rfl) ?_ ?_
    · refine ⟨fun a w hB hfr hdep => Step.plain rfl (Does.call 16 #[] (by kernel_rfl) (cBase w (Tab.below hT1 hB))),
        fun a w hB hfr hdep => Step.plain rfl (dMove (R := Bts (l1)) rfl (use (hfr 0 (by kernel_rfl)) ((Bts.stb _) _ _ _ hB ((Bts.stb _) _ _ _ hb1 hv1)))),
        fun a w hB hfr hdep => Step.plain rfl (Does.call 10 #[(a.eval (.tmp 7)), .int .i64 32] (by kernel_rfl) (cFew 32 w (hdep 1 7 (by kernel_rfl)) (by decide))),
        fun a w hB hfr hdep => Step.plain rfl (Does.call 17 #[(a.eval (.tmp 6)), (a.eval (.tmp 8))] (by kernel_rfl) (cMulP w w (Tab.below hT1 hB) (hdep 0 6 (by kernel_rfl)) (hdep 2 8 (by kernel_rfl)) (Dig.take hd1 _) (by rw [List.length_take]; omega))),
        fun a w hB hfr hdep => Step.plain rfl (dAlloc29 hB.size rfl), trivial⟩
    intro u2 hb2
    simp only [List.take, List.drop, FinAll, Act.put, List.setIfInBounds_toArray, List.set_cons_succ, List.set_cons_zero]
    rintro v6_2 h6_2 v7_2 h7_2 v8_2 h8_2 _ ⟨e9_2, rfl, x9_2⟩ _ ⟨g3_2, rfl, l3_2, m3_2⟩
    refine wpList_store_row rfl 29 (.tmp 3) (.tmp 9) rfl _ (e9_2) rfl rfl 29 _ m3_2 (by rw [cellsP_size x9_2]; exact info29) (by rw [cellsP_size x9_2]; rfl) (cellsP_one x9_2) ?_
    have n3_2 := setRow_heap _ _ _ (e9_2) _ _ m3_2
    replace hb2 := setRow_below hb2 l3_2 (e9_2)
    generalize hw2_1 : u2.setRow g3_2 (e9_2) = u2_1 at n3_2 hb2  ⊢
    clear hw2_1 m3_2
    have hO2 := (hO1).trans (hb2.mono (hO1).size)
    have lwn3_2 := Nat.le_trans (hO1).size l3_2
    have hT2 := Tab.below hT1 hb2
    refine hK2 _ _ ?_
    clear hK2 K2
    refine wp_seq_k fun K3 hK3 => ?_
    refine wp_plain_inv 3 (specs [PtV ((bp).nm (valD ((l1).take 32))), Own u2_1.heap.size (digs 32 (Pt.enc ((bp).nm (valD ((l1).take 32))))), Own u2_1.heap.size (digs 32 (Pt.enc ((bp).nm (valD ((l1).take 32)))))]) (specs_stb ⟨PtV.stb _, Own.stb _ _, Own.stb _ _, trivial⟩) (by kernel_rfl) ?_ ?_
    · refine ⟨fun a w hB hfr hdep => Step.plain rfl (dLoadPt x9_2 (block_below hB (lt_of_heap n3_2) n3_2) rfl (hfr 3 (by kernel_rfl)) (fun _ h => h)),
        fun a w hB hfr hdep => Step.plain rfl (Does.call 14 #[(a.eval (.tmp 10))] (by kernel_rfl) (ownLo hB.size (cPBytes w w (hdep 0 10 (by kernel_rfl))))),
        fun a w hB hfr hdep => Step.plain rfl (dAssign (R := Own u2_1.heap.size (digs 32 (Pt.enc ((bp).nm (valD ((l1).take 32)))))) rfl (hdep 1 11 (by kernel_rfl))), trivial⟩
    intro u3 hb3
    simp only [List.take, List.drop, FinAll, Act.put, List.setIfInBounds_toArray, List.set_cons_succ, List.set_cons_zero]
    rintro v10_3 h10_3 v11_3 h11_3 v4_3 h4_3
    have hO3 := (hO2).trans (hb3.mono (hO2).size)
    have n3_2__3 := block_below hb3 (lt_of_heap n3_2) n3_2
    have hT3 := Tab.below hT2 hb3
    refine hK3 _ _ ?_
    clear hK3 K3
    refine wp_seq_k fun K4 hK4 => ?_
    refine wp_plain_inv 4 (specs [PtV ((bp).nm (valD ((l1).take 32))), PtV (((bp).nm (valD ((l1).take 32))).neg), Own u3.heap.size (digs 32 (Pt.enc (((bp).nm (valD ((l1).take 32))).neg))), Own u3.heap.size (digs 32 (Pt.enc (((bp).nm (valD ((l1).take 32))).neg)))]) (specs_stb ⟨PtV.stb _, PtV.stb _, Own.stb _ _, Own.stb _ _, trivial⟩) (by kernel_rfl) ?_ ?_
    · refine ⟨fun a w hB hfr hdep => Step.plain rfl (dLoadPt x9_2 (block_below hB (lt_of_heap n3_2__3) n3_2__3) rfl (hfr 3 (by kernel_rfl)) (fun _ h => h)),
        fun a w hB hfr hdep => Step.plain rfl (Does.call 26 #[(a.eval (.tmp 12))] (by kernel_rfl) (cNeg w w (hdep 0 12 (by kernel_rfl)))),
        fun a w hB hfr hdep => Step.plain rfl (Does.call 14 #[(a.eval (.tmp 13))] (by kernel_rfl) (ownLo hB.size (cPBytes w w (hdep 1 13 (by kernel_rfl))))),
        fun a w hB hfr hdep => Step.plain rfl (dAssign (R := Own u3.heap.size (digs 32 (Pt.enc (((bp).nm (valD ((l1).take 32))).neg)))) rfl (hdep 2 14 (by kernel_rfl))), trivial⟩
    intro u4 hb4
    simp only [List.take, List.drop, FinAll, Act.put, List.setIfInBounds_toArray, List.set_cons_succ, List.set_cons_zero]
    rintro v12_4 h12_4 v13_4 h13_4 v14_4 h14_4 v5_4 h5_4
    have hO4 := (hO3).trans (hb4.mono (hO3).size)
    have n3_2__4 := block_below hb4 (lt_of_heap n3_2__3) n3_2__3
    have hT4 := Tab.below hT3 hb4
    refine hK4 _ _ ?_
    clear hK4 K4
    obtain ⟨gx, egx, lgx, rgx⟩ := own32 ((Own.stb _ _) _ _ _ hb4 h4_3)
    subst egx
    obtain ⟨gy, egy, lgy, rgy⟩ := own32 h5_4
    subst egy
    have ngxy : gy ≠ gx := by have := own_block h4_3; omega
    refine wp_seq_k fun KA hKA => ?_
    refine wp_seq_k fun K5 hK5 => ?_
    refine wp_plain_inv 8 (specs [Is (.slice (some ⟨gx, 0, none⟩) 32 32), Is (.int .i64 32), Is (.bool false), Is (.bool false), Is (.slice (some ⟨gy, 0, none⟩) 32 32), Is (.int .i64 32), Is (.bool false), Is (.bool false)]) (specs_stb ⟨Is.stb _, Is.stb _, Is.stb _, Is.stb _, Is.stb _, Is.stb _, Is.stb _, Is.stb _, trivial⟩) (by kernel_rfl) ?_ ?_
    · refine ⟨fun a w hB hfr hdep => Step.plain rfl (dMove (R := Is (.slice (some ⟨gx, 0, none⟩) 32 32)) rfl (hfr 4 (by kernel_rfl))),
        fun a w hB hfr hdep => Step.plain rfl (Does.run _ (run_lenO rfl (hdep 0 15 (by kernel_rfl))) rfl),
        fun a w hB hfr hdep => Step.plain rfl (Does.run _ (run_binO rfl (hdep 1 16 (by kernel_rfl)) rfl (by kernel_rfl)) rfl),
        fun a w hB hfr hdep => Step.plain rfl (dMove (R := Is (.bool false)) rfl (hdep 2 17 (by kernel_rfl))),
        fun a w hB hfr hdep => Step.yes 3 18 false rfl rfl (hdep 3 18 (by kernel_rfl)) (dMove (R := Is (.slice (some ⟨gy, 0, none⟩) 32 32)) rfl (hfr 5 (by kernel_rfl))),
        fun a w hB hfr hdep => Step.yes 3 18 false rfl rfl (hdep 3 18 (by kernel_rfl)) (Does.run _ (run_lenO rfl (hdep 4 19 (by kernel_rfl))) rfl),
        fun a w hB hfr hdep => Step.yes 3 18 false rfl rfl (hdep 3 18 (by kernel_rfl)) (Does.run _ (run_binO rfl (hdep 5 20 (by kernel_rfl)) rfl (by kernel_rfl)) rfl),
        fun a w hB hfr hdep => Step.plain rfl (dPickF rfl (hdep 3 18 (by kernel_rfl)) (hdep 6 21 (by kernel_rfl))), trivial⟩
    intro u5 hb5
    simp only [List.take, List.drop, FinAll, Act.put, List.setIfInBounds_toArray, List.set_cons_succ, List.set_cons_zero]
    rintro _ rfl _ rfl _ rfl _ rfl _ rfl _ rfl _ rfl _ rfl
    have hO5 := (hO4).trans (hb5.mono (hO4).size)
    have n3_2__5 := block_below hb5 (lt_of_heap n3_2__4) n3_2__4
    have rgx__5 := block_below hb5 (lt_of_heap rgx) rgx
    have rgy__5 := block_below hb5 (lt_of_heap rgy) rgy
    have hT5 := Tab.below hT4 hb5
    refine hK5 _ _ ?_
    clear hK5 K5
    refine wp_cond_false rfl ?_
    refine wp_skip ?_
    refine hKA _ _ ?_
    clear hKA KA
    refine wp_seq_k fun KB hKB => ?_
    refine wp_seq_k fun K6 hK6 => ?_
    refine wp_region_inv 4 (specs [PtV ((bp).nm (valD ((l1).take 32))), PtV ((bp).nm (valD ((l1).take 32))), PtV (((bp).nm (valD ((l1).take 32))).neg), Is (.bool false)]) (by kernel_rfl) (specs_stb ⟨PtV.stb _, PtV.stb _, PtV.stb _, Is.stb _, trivial⟩) (by kernel_rfl) ?_ ?_
    · refine ⟨fun a w hB hfr hdep => Step.plain rfl (dLoadPt x9_2 (block_below hB (lt_of_heap n3_2__5) n3_2__5) rfl (hfr 3 (by kernel_rfl)) (fun _ h => h)),
        fun a w hB hfr hdep => Step.plain rfl (dLoadPt x9_2 (block_below hB (lt_of_heap n3_2__5) n3_2__5) rfl (hfr 3 (by kernel_rfl)) (fun _ h => h)),
        fun a w hB hfr hdep => Step.plain rfl (Does.call 26 #[(a.eval (.tmp 24))] (by kernel_rfl) (cNeg w w (hdep 1 24 (by kernel_rfl)))),
        fun a w hB hfr hdep => Step.plain rfl (Does.call 24 #[(a.eval (.tmp 23)), (a.eval (.tmp 25))] (by kernel_rfl) (cPEqF hne w w w (hdep 0 23 (by kernel_rfl)) (hdep 2 25 (by kernel_rfl)))), trivial⟩
    intro u6 hb6
    simp only [List.take, List.drop, FinAll, Act.put, List.setIfInBounds_toArray, List.set_cons_succ, List.set_cons_zero]
    rintro v23_6 h23_6 v24_6 h24_6 v25_6 h25_6 _ rfl
    have hO6 := (hO5).trans (hb6.mono (hO5).size)
    have n3_2__6 := block_below hb6 (lt_of_heap n3_2__5) n3_2__5
    have rgx__6 := block_below hb6 (lt_of_heap rgx__5) rgx__5
    have rgy__6 := block_below hb6 (lt_of_heap rgy__5) rgy__5
    have hT6 := Tab.below hT5 hb6
    refine hK6 _ _ ?_
    clear hK6 K6
    refine wp_cond_false rfl ?_
    refine wp_skip ?_
    refine hKB _ _ ?_
    clear hKB KB
    have c31 := cell_ints rgx__6 31 (by rw [digs_len]; omega)
    have f31 := free_ints rgx__6 31
    have hcd := digs_dig 32 (Pt.enc ((bp).nm (valD ((l1).take 32)))) 31
    obtain ⟨c, hcc⟩ : ∃ c, c = (digs 32 (Pt.enc ((bp).nm (valD ((l1).take 32))))).getD 31 0 := ⟨_, rfl⟩
    rw [← hcc] at c31 hcd
    have hx := xor128 c hcd
    have hnb := neg_bytes hne hcc
    obtain ⟨d, hdd⟩ : ∃ d, d = (if c < 128 then c + 128 else c - 128) := ⟨_, rfl⟩
    rw [← hdd] at hx hnb
    have hrx := set_ints rgx__6 31 d
    rw [hnb] at hrx
    have hry := (heap_setCell_other u6 ⟨gx, 31, none⟩ gy (.int .u8 (d : Int)) ngxy).trans rgy__6
    have hOs := (hO6).setCell (p := ⟨gx, 31, none⟩) (by show _ ≤ gx; have := hO2.size; omega) (.int .u8 (d : Int))
    have hTs : Tab (u6.setCell ⟨gx, 31, none⟩ (.int .u8 (d : Int))) := hT6.setCell (by show 2 < gx; have := hT.size; have := hO2.size; omega)
    have HRX : Hid _ := hrx
    have HRY : Hid _ := hry
    have HOS : Hid _ := hOs
    have HTS : Hid _ := hTs
    clear hrx hry hOs hTs hnb hcc hdd
    refine wp_seq_k fun KC hKC => ?_
    have HKC : Hid _ := hKC
    clear hKC
    go_wp2
    refine HKC.out _ _ ?_
    clear HKC KC
    have hrx := HRX.out
    have hry := HRY.out
    have hO := HOS.out
    have hT9 := HTS.out
    clear HRX HRY HOS HTS c31 f31
    generalize u6.setCell ⟨gx, 31, none⟩ (.int .u8 (d : Int)) = uu at hrx hry hO hT9 ⊢
    refine wp_seq_k fun K7 hK7 => ?_
    refine wp_plain_inv 9 (specs [Is (.slice (some ⟨gx, 0, none⟩) 32 32), Is (.string (strOf (digs 32 (Pt.enc ((bp).nm (valD ((l1).take 32))).neg)))), Is (.slice (some ⟨gy, 0, none⟩) 32 32), Is (.string (strOf (digs 32 (Pt.enc ((bp).nm (valD ((l1).take 32))).neg)))), Is (.bool true), Is (.bool true), Is (.bool true), Is (.bool true), Is (.bool true)]) (specs_stb ⟨Is.stb _, Is.stb _, Is.stb _, Is.stb _, Is.stb _, Is.stb _, Is.stb _, Is.stb _, Is.stb _, trivial⟩) (by kernel_rfl) ?_ ?_
    · refine ⟨fun a w hB hfr hdep => Step.plain rfl (dMove (R := Is (.slice (some ⟨gx, 0, none⟩) 32 32)) rfl (hfr 4 (by kernel_rfl))),
        fun a w hB hfr hdep => Step.plain rfl (dConvRow rfl (hdep 0 41 (by kernel_rfl)) (block_below hB (lt_of_heap hrx) hrx) (digs_len _ _)),
        fun a w hB hfr hdep => Step.plain rfl (dMove (R := Is (.slice (some ⟨gy, 0, none⟩) 32 32)) rfl (hfr 5 (by kernel_rfl))),
        fun a w hB hfr hdep => Step.plain rfl (dConvRow rfl (hdep 2 43 (by kernel_rfl)) (block_below hB (lt_of_heap hry) hry) (digs_len _ _)),
        fun a w hB hfr hdep => Step.plain rfl (Does.run _ (run_eqStrB (str_refl _) rfl (hdep 1 42 (by kernel_rfl)) (hdep 3 44 (by kernel_rfl))) rfl),
        fun a w hB hfr hdep => Step.plain rfl (dMove (R := Is (.bool true)) rfl (hdep 4 45 (by kernel_rfl))),
        fun a w hB hfr hdep => Step.yes 5 46 true rfl rfl (hdep 5 46 (by kernel_rfl)) (Does.call 13 #[] (by kernel_rfl) (cLives w (Tab.below hT9 hB))),
        fun a w hB hfr hdep => Step.plain rfl (dPickT rfl (hdep 5 46 (by kernel_rfl)) (hdep 6 47 (by kernel_rfl))),
        fun a w hB hfr hdep => Step.plain rfl (dAssign (R := Is (.bool true)) rfl (hdep 7 48 (by kernel_rfl))), trivial⟩
    intro u7 hb7
    simp only [List.take, List.drop, FinAll, Act.put, List.setIfInBounds_toArray, List.set_cons_succ, List.set_cons_zero]
    rintro _ rfl _ rfl _ rfl _ rfl _ rfl _ rfl _ rfl _ rfl _ rfl
    have hO7 := (hO).trans (hb7.mono (hO).size)
    have hrx__7 := block_below hb7 (lt_of_heap hrx) hrx
    have hry__7 := block_below hb7 (lt_of_heap hry) hry
    have hT7 := Tab.below hT9 hb7
    refine hK7 _ _ ?_
    clear hK7 K7
    refine wp_ret ?_
    refine bodyPost_ret (results_tmp rfl _ _ _) rfl ?_
    exact ⟨_, rfl, hO7, rfl⟩

end Go.Proofs.YtpfcboakafbnlaaDoor
