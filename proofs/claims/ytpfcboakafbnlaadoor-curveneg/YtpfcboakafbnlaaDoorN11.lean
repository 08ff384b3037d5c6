/-
  Read.
-/
import Derived.Test.YtpfcboakafbnlaaDoorN10
set_option linter.unusedVariables false
namespace Go.Proofs.YtpfcboakafbnlaaDoor
open Go.RowKit Go.Sort Go.BigFrame
set_option maxRecDepth 100000
set_option maxHeartbeats 2000000
section
variable {ρ : Operand → Value} {o : Oper} {x y z t : Operand} {w : World}
theorem bu29z (ho : o.op = .build 29 #[]) : (execOp ρ o).run Tryd.prog w = .ok (.value (.agg (ptc zeroE zeroE zeroE zeroE))) w := by
  simp only [execOp, ho]
  kernel_rfl
theorem run_binO {op : BinOp} {t t2 : TypeId} {a b v : Value} (ho : o.op = .binOp op t x y t2) (hx : ρ x = a) (hy : ρ y = b) (hr : Sem.run Tryd.prog (do eqGuard op t x y a b; binOp op t a b) w = .ok v w) : (execOp ρ o).run Tryd.prog w = .ok (.value v) w := by
  simp only [execOp, ho, hx, hy]
  rw [Sem.run_bind, hr]
  rfl
theorem run_neqS {s1 s2 : Nat} {b : Bool} (ho : o.op = .binOp .neq 4 (.tmp s1) (.tmp s2) 4) (hx : ρ (.tmp s1) = .bool b) (hy : ρ (.tmp s2) = .bool b) : (execOp ρ o).run Tryd.prog w = .ok (.value (.bool false)) w :=
  run_binO ho hx hy (by cases b <;> kernel_rfl)
theorem run_neqD {s1 s2 : Nat} {b : Bool} (ho : o.op = .binOp .neq 4 (.tmp s1) (.tmp s2) 4) (hx : ρ (.tmp s1) = .bool (!b)) (hy : ρ (.tmp s2) = .bool b) : (execOp ρ o).run Tryd.prog w = .ok (.value (.bool true)) w :=
  run_binO ho hx hy (by cases b <;> kernel_rfl)
end
theorem and128 (x : Nat) (h : x < 256) : (bits .and .u8 (x : Int) 128 != 0) = decide (128 ≤ x) := by
  have : ∀ y < 256, (bits .and .u8 ((y : Nat) : Int) 128 != 0) = decide (128 ≤ y) := by decide
  exact this x h
theorem andNot128 (x : Nat) (h : x < 256) : bits .andNot .u8 (x : Int) 128 = ((x % 128 : Nat) : Int) := by
  have : ∀ y < 256, bits .andNot .u8 ((y : Nat) : Int) 128 = ((y % 128 : Nat) : Int) := by decide
  exact this x h
/-- 32 bytes: their number's highest bit. -/
theorem high_bit {l : List Nat} (hl : l.length = 32) (hd : Dig l) : valD l / t255 = l.getD 31 0 / 128 ∧ valD (l.set 31 (l.getD 31 0 % 128)) = valD l % t255 ∧ valD l < 2 * t255 := by
  have h1 := valD_take_succ l 31
  rw [List.take_of_length_le (by omega)] at h1
  have h2 := valD_take_lt hd 31
  have h3 := hd 31
  have h4 := valD_set l 31 (l.getD 31 0 % 128) (by omega)
  have h5 := p31
  obtain ⟨q, hq⟩ : ∃ q, q = 256 ^ 31 := ⟨_, rfl⟩
  rw [← hq] at h1 h2 h4 h5
  obtain ⟨c, hc⟩ : ∃ c, c = l.getD 31 0 := ⟨_, rfl⟩
  rw [← hc] at h1 h3 h4 ⊢
  obtain ⟨L, hL⟩ : ∃ L, L = valD (l.take 31) := ⟨_, rfl⟩
  rw [← hL] at h1 h2
  have e1 : c = 128 * (c / 128) + c % 128 := by omega
  have e2 : q * c = t255 * (c / 128) + q * (c % 128) := by
    rw [← h5, Nat.mul_assoc, ← Nat.mul_add, ← e1]
  have e3 : q * (c % 128) ≤ q * 127 := Nat.mul_le_mul_left _ (by omega)
  have e4 : L + q * (c % 128) < t255 := by omega
  have e5 : valD l = (L + q * (c % 128)) + t255 * (c / 128) := by omega
  have ht : 0 < t255 := by decide
  refine ⟨?_, ?_, ?_⟩
  · rw [e5, Nat.add_mul_div_left _ _ ht, Nat.div_eq_of_lt e4, Nat.zero_add]
  · rw [e5, Nat.add_mul_mod_self_left, Nat.mod_eq_of_lt e4]; omega
  · rw [e5]
    have : t255 * (c / 128) ≤ t255 * 1 := Nat.mul_le_mul_left _ (by omega)
    omega
theorem root_sq {a : Fe} {e : Nat} (he : 8 * e = pp + 3) (h : IsSq a) : rootOf e a * rootOf e a = a := by
  unfold rootOf
  rcases root_or h he with h1 | h1
  · rw [if_pos h1]; exact h1
  · by_cases h2 : pw a e * pw a e = a
    · rw [if_pos h2]; exact h2
    · rw [if_neg h2]; exact h1
theorem zsub (z : Fe) : 0 - z = -z := by grobner
/-- Which of the two roots a point's x is. -/
theorem pt_root {p : Pt} {e n : Nat} (he : 8 * e = pp + 3) (hn : p.enc = n) : n % t255 < pp ∧ rootOf e (av (fe (n % t255))) * rootOf e (av (fe (n % t255))) = av (fe (n % t255)) ∧ p.y = fe (n % t255) ∧
    (((rootOf e (av (fe (n % t255)))).val % 2 = n / t255 ∧ p.x = rootOf e (av (fe (n % t255)))) ∨ ((rootOf e (av (fe (n % t255)))).val % 2 ≠ n / t255 ∧ p.x = 0 - rootOf e (av (fe (n % t255))) ∧ (0 - rootOf e (av (fe (n % t255)))).val % 2 = n / t255)) := by
  have hy : n % t255 = p.y.val := by rw [← hn, p.enc_y]
  have ho : n / t255 = p.x.val % 2 := by rw [← hn, p.enc_odd]
  rw [hy, ho, fe_of]
  have hs := p.sq
  have hr := root_sq (a := av p.y) he ⟨p.x, hs.symm⟩
  refine ⟨p.y.isLt, hr, rfl, ?_⟩
  obtain ⟨r, hre⟩ : ∃ r, r = rootOf e (av p.y) := ⟨_, rfl⟩
  rw [← hre] at hr ⊢
  rw [← hr] at hs
  by_cases hp : r.val % 2 = p.x.val % 2
  · left
    refine ⟨hp, ?_⟩
    rcases sq_eq hs with h | h
    · exact h
    · by_cases h0 : r = 0
      · rw [h, h0]; grobner
      · have := neg_par h0
        rw [← h] at this
        omega
  · right
    have hx : p.x = -r := by
      rcases sq_eq hs with h | h
      · rw [h] at hp; exact absurd rfl hp
      · exact h
    rw [zsub, ← hx]
    exact ⟨hp, rfl, rfl⟩
/-- What it is where there is no point. -/
theorem no_root {e n : Nat} (he : 8 * e = pp + 3) (hn2 : n < 2 * t255) (hno : ¬ ∃ p : Pt, p.enc = n) (h1 : n % t255 < pp) (h2 : rootOf e (av (fe (n % t255))) * rootOf e (av (fe (n % t255))) = av (fe (n % t255))) :
    (rootOf e (av (fe (n % t255)))).val % 2 ≠ n / t255 ∧ (0 - rootOf e (av (fe (n % t255)))).val % 2 ≠ n / t255 := by
  obtain ⟨r, hre⟩ : ∃ r, r = rootOf e (av (fe (n % t255))) := ⟨_, rfl⟩
  rw [← hre] at h2 ⊢
  have ht : 0 < t255 := by decide
  have key : ∀ x : Fe, x * x = av (fe (n % t255)) → x.val % 2 ≠ n / t255 := fun x hx hp => by
    refine hno ⟨⟨x, fe (n % t255), (on_iff _ _).2 hx⟩, ?_⟩
    unfold Pt.enc
    show (fe (n % t255)).val + t255 * (x.val % 2) = n
    rw [hp, fe_val, Nat.mod_eq_of_lt h1, Nat.mod_add_div]
  exact ⟨key r h2, key (0 - r) (by rw [← h2]; grobner)⟩
theorem cOddB {x : Fe} {b : Bool} (hb : decide (x.val % 2 = 1) = b) {v1 : Value} (w w0 : World) (h1 : El x v1 w0) : Ret 32 #[v1] w (Is (.bool b)) := by
  rw [← hb]; exact cOdd w w0 h1
theorem cXWithT {y r : Fe} {v : Value} {e : Nat} (he : valD tab3.reverse = e) (hr : rootOf e (av y) = r) (hs : r * r = av y) (w w0 : World) (hT : Tab5 w) (h : El y v w0) : Ret 31 #[v] w (Tup2 (El r) (Is (.bool true))) := by
  have := cXWith he w w0 hT h
  rw [hr, decide_eq_true hs] at this
  exact this
theorem cXWithF {y r : Fe} {v : Value} {e : Nat} (he : valD tab3.reverse = e) (hr : rootOf e (av y) = r) (hs : ¬ r * r = av y) (w w0 : World) (hT : Tab5 w) (h : El y v w0) : Ret 31 #[v] w (Tup2 (El r) (Is (.bool false))) := by
  have := cXWith he w w0 hT h
  rw [hr, decide_eq_false hs] at this
  exact this
theorem Tab5.setCell {w : World} (h : Tab5 w) {g k : Nat} {v : Value} (hg : 4 < g) : Tab5 (w.setCell ⟨g, k, none⟩ v) := by
  have o : ∀ (j : Nat) (l : List Nat), j < 5 → BytesAt w j 0 l → BytesAt (w.setCell ⟨g, k, none⟩ v) j 0 l := fun j l hj hl i hi => by
    rw [World.cell?_setCell_far w ⟨g, k, none⟩ ⟨j, 0 + i, none⟩ v (by show g ≠ j; omega)]; exact hl i hi
  exact ⟨⟨o 0 _ (by omega) h.t0, o 1 _ (by omega) h.t1, o 2 _ (by omega) h.t2⟩, o 3 _ (by omega) h.t3, o 4 _ (by omega) h.t4⟩
theorem ownCLo {f : FuncId} {args : Array Value} {w : World} {l : List Nat} {lo : Nat} (hlo : lo ≤ w.heap.size) (h : Ret f args w (OwnC w.heap.size l)) : Ret f args w (OwnC lo l) :=
  h.mono fun e w' ⟨v, h1, h2, h3⟩ => ⟨v, h1, h2, h3.lo hlo⟩
theorem cloneIs {v x : Value} {l : List Nat} (w : World) (hv : v = x) (h : Bts l x w) (hl : l.length = 32) : Ret 29 #[v] w (OwnC w.heap.size l) := by
  subst hv; exact cClone w h (by omega) (by omega)
theorem cReadY {v : Value} {l : List Nat} {y : Fe} (hy : fe (valD l) = y) (w : World) (h : Bts l v w) (hl : l.length = 32) (hd : Dig l) (hlt : valD l < pp) : Ret 30 #[v] w (Tup2 (El y) (Is (.int .i64 0))) := by
  rw [← hy]; exact cRead w h hl hd hlt
theorem readCA (w : World) (hT : Tab5 w) {l : List Nat} {gx off cap c d : Nat} {bb : Bool} {e : Nat} (he : valD tab3.reverse = e) (hb : Bts l (.slice (some ⟨gx, off, none⟩) 32 cap) w) (hl : l.length = 32) (hcc : Hid (c = l.getD 31 0)) (hc256 : c < 256) (han : bits .andNot .u8 (c : Int) 128 = (d : Int)) (hbb : decide (128 ≤ c) = bb) (hl1 : (l.set 31 d).length = 32) (hd1 : Dig (l.set 31 d))
    (hgx : gx < w.heap.size) (hca : w.cell? ⟨gx, off + 31, none⟩ = some (.int .u8 (c : Int))) (hA : ¬ valD (l.set 31 d) < pp) :
    Ret 11 #[.slice (some ⟨gx, off, none⟩) 32 cap] w (Tup2 (Is (.agg (ptc zeroE zeroE zeroE zeroE))) (Is (.int .i64 2))) := by
  unfold Ret
  have hand := and128 c hc256
  rw [hbb] at hand
  clear hbb
  have h32 : ((32 : Int) != 32) = false := rfl
  have hO0 : Below w.heap.size w w := Below.refl _ _
  go_enter Tryd.func11, Tryd.ntmps11
  refine wp_seq_k fun K1 hK1 => ?_
  refine wp_plain_inv 2 (specs [Box w.heap.size (ptc zeroE zeroE zeroE zeroE) 29, Is (.int .i64 0)]) (specs_stb ⟨Box.stb _ _ _, Is.stb _, trivial⟩) (by kernel_rfl) ?_ ?_
  · refine ⟨fun a w hB hfr hdep => Step.plain rfl (dAlloc29 hB.size rfl),
      fun a w hB hfr hdep => Step.plain rfl (dAssign (R := Is (.int .i64 0)) rfl rfl), trivial⟩
  intro u1 hb1
  simp only [List.take, List.drop, FinAll, Act.put, List.setIfInBounds_toArray, List.set_cons_succ, List.set_cons_zero]
  rintro _ ⟨g2_1, rfl, l2_1, m2_1⟩ _ rfl
  have hO1 := (hO0).trans (hb1.mono (hO0).size)
  have lwm2_1 := Nat.le_trans (hO0).size l2_1
  have hT1 := Tab5.below hT hb1
  refine hK1 _ _ ?_
  clear hK1 K1
  refine wp_seq_k fun KA hKA => ?_
  have HKA : Hid _ := hKA
  clear hKA
  go_wp2
  refine HKA.out _ _ ?_
  clear HKA KA
  refine wp_seq_k fun K2 hK2 => ?_
  refine wp_plain_inv 3 (specs [Is (.slice (some ⟨gx, off, none⟩) 32 cap), OwnC u1.heap.size l, OwnC u1.heap.size l]) (specs_stb ⟨Is.stb _, OwnC.stb _ _, OwnC.stb _ _, trivial⟩) (by kernel_rfl) ?_ ?_
  · refine ⟨fun a w hB hfr hdep => Step.plain rfl (dMove (R := Is (.slice (some ⟨gx, off, none⟩) 32 cap)) rfl (hfr 0 (by kernel_rfl))),
      fun a w hB hfr hdep => Step.plain rfl (Does.call 29 #[(a.eval (.tmp 14))] (by kernel_rfl) (ownCLo hB.size (cloneIs w (hdep 0 14 (by kernel_rfl)) (Bts.stb _ _ _ _ hB (Bts.stb _ _ _ _ hO1 hb)) hl))),
      fun a w hB hfr hdep => Step.plain rfl (dAssign (R := OwnC u1.heap.size l) rfl (hdep 1 15 (by kernel_rfl))), trivial⟩
  intro u2 hb2
  simp only [List.take, List.drop, FinAll, Act.put, List.setIfInBounds_toArray, List.set_cons_succ, List.set_cons_zero]
  rintro _ rfl v15_2 h15_2 v4_2 h4_2
  have hO2 := (hO1).trans (hb2.mono (hO1).size)
  have m2_1__2 := block_below hb2 (lt_of_heap m2_1) m2_1
  have hT2 := Tab5.below hT1 hb2
  refine hK2 _ _ ?_
  clear hK2 K2
  obtain ⟨g4, cap4, cur4, hv4, hl4, hrow4, hc4, hc4', hcur⟩ := h4_2
  rw [hl] at hv4 hcur
  subst hv4
  have c31 := cell_of_row _ g4 31 _ _ _ hrow4
  rw [hcur 31 (by omega), ← hcc.out] at c31
  have f31 := frozen_of_row _ g4 31 _ _ hrow4
  have hst := cur_set hrow4 (by rw [hl]; exact hcur) 31 d (by omega)
  have hOs := (hO2).setCell (p := ⟨g4, 31, none⟩) (by show _ ≤ g4; have := hO1.size; omega) (.int .u8 (d : Int))
  have nz : g2_1 ≠ g4 := by have := lt_of_heap m2_1; omega
  have hz2 := (heap_setCell_other u2 ⟨g4, 31, none⟩ g2_1 (.int .u8 (d : Int)) nz).trans m2_1__2
  have hTs : Tab5 (u2.setCell ⟨g4, 31, none⟩ (.int .u8 (d : Int))) := hT2.setCell (by have := hT.size; have := hO1.size; show 4 < g4; omega)
  have HOS : Hid _ := hOs
  have HZ2 : Hid _ := hz2
  have HTS : Hid _ := hTs
  have HST : Hid _ := hst
  clear hOs hz2 hTs hst
  refine wp_seq_k fun KB hKB => ?_
  have HKB : Hid _ := hKB
  clear hKB
  go_wp2
  refine HKB.out _ _ ?_
  clear HKB KB
  have hO := HOS.out
  have hz := HZ2.out
  have hT9 := HTS.out
  have hb9 : Bts (l.set 31 d) (.slice (some ⟨g4, 0, none⟩) 32 cap4) (u2.setCell ⟨g4, 31, none⟩ (.int .u8 (d : Int))) := ⟨_, _, by rw [hl1], by rw [hl1]; rw [hl] at hc4; exact hc4, hc4', fun _ => ⟨g4, 0, rfl, bytesAt_cur HST.out.1 HST.out.2⟩⟩
  clear HOS HZ2 HTS HST c31 f31
  generalize u2.setCell ⟨g4, 31, none⟩ (.int .u8 (d : Int)) = uu at hO hz hT9 hb9 ⊢
  refine wp_seq_k fun K3 hK3 => ?_
  refine wp_plain_inv 6 (specs [Bts (l.set 31 d), Tup2 (El (0)) (Is (.int .i64 2)), Tup2 (El (0)) (Is (.int .i64 2)), El (0), Is (.int .i64 2), Box uu.heap.size (elc zeroE) 27]) (specs_stb ⟨Bts.stb _, Tup2.stb (El.stb _) (Is.stb _), Tup2.stb (El.stb _) (Is.stb _), El.stb _, Is.stb _, Box.stb _ _ _, trivial⟩) (by kernel_rfl) ?_ ?_
  · refine ⟨fun a w hB hfr hdep => Step.plain rfl (dMove (R := Bts (l.set 31 d)) rfl (use (hfr 4 (by kernel_rfl)) ((Bts.stb _) _ _ _ hB hb9))),
      fun a w hB hfr hdep => Step.plain rfl (Does.call 30 #[(a.eval (.tmp 22))] (by kernel_rfl) (cReadNot w (hdep 0 22 (by kernel_rfl)) hl1 hd1 hA)),
      fun a w hB hfr hdep => Step.plain rfl (dMove (R := Tup2 (El (0)) (Is (.int .i64 2))) rfl (hdep 1 23 (by kernel_rfl))),
      fun a w hB hfr hdep => Step.plain rfl (dExt0 rfl (hdep 2 21 (by kernel_rfl))),
      fun a w hB hfr hdep => Step.plain rfl (dExt1 rfl (hdep 2 21 (by kernel_rfl))),
      fun a w hB hfr hdep => Step.plain rfl (dAlloc27 hB.size rfl), trivial⟩
  intro u3 hb3
  simp only [List.take, List.drop, FinAll, Act.put, List.setIfInBounds_toArray, List.set_cons_succ, List.set_cons_zero]
  rintro v22_3 h22_3 v23_3 h23_3 v21_3 h21_3 _ ⟨e24_3, q24_3, rfl, x24_3⟩ _ rfl _ ⟨g5_3, rfl, l5_3, m5_3⟩
  refine wpList_store_row rfl 27 (.tmp 5) (.tmp 24) rfl _ (elc e24_3) rfl rfl 27 _ m5_3 info26 rfl (elc_one _) ?_
  have n5_3 := setRow_heap _ _ _ (elc e24_3) _ _ m5_3
  replace hb3 := setRow_below hb3 l5_3 (elc e24_3)
  generalize hw3_1 : u3.setRow g5_3 (elc e24_3) = u3_1 at n5_3 hb3  ⊢
  clear hw3_1 m5_3
  refine wpList_assign rfl rfl rfl ?_
  simp only [Act.put, Act.eval, Array.getD_eq_getD_getElem?, List.getElem?_toArray, List.getElem?_cons_succ, List.getElem?_cons_zero, Option.getD_some, List.setIfInBounds_toArray, List.set_cons_succ, List.set_cons_zero]
  have hO3 := (hO).trans (hb3.mono (hO).size)
  have hz__3 := block_below hb3 (lt_of_heap hz) hz
  have lwn5_3 := Nat.le_trans (hO).size l5_3
  have hT3 := Tab5.below hT9 hb3
  refine hK3 _ _ ?_
  clear hK3 K3
  refine wp_seq_k fun KO6 hKO6 => ?_
  refine wp_seq_k fun K4 hK4 => ?_
  refine wp_plain_inv 2 (specs [Is (.int .i64 2), Is (.bool true)]) (specs_stb ⟨Is.stb _, Is.stb _, trivial⟩) (by kernel_rfl) ?_ ?_
  · refine ⟨fun a w hB hfr hdep => Step.plain rfl (dMove (R := Is (.int .i64 2)) rfl (hfr 6 (by kernel_rfl))),
      fun a w hB hfr hdep => Step.plain rfl (Does.run _ (run_binO rfl (hdep 0 26 (by kernel_rfl)) rfl (by kernel_rfl)) rfl), trivial⟩
  intro u4 hb4
  simp only [List.take, List.drop, FinAll, Act.put, List.setIfInBounds_toArray, List.set_cons_succ, List.set_cons_zero]
  rintro _ rfl _ rfl
  have hO4 := (hO3).trans (hb4.mono (hO3).size)
  have hz__4 := block_below hb4 (lt_of_heap hz__3) hz__3
  have n5_3__4 := block_below hb4 (lt_of_heap n5_3) n5_3
  have hT4 := Tab5.below hT3 hb4
  refine hK4 _ _ ?_
  clear hK4 K4
  refine wp_cond_true rfl ?_
  refine wp_seq_k fun K5 hK5 => ?_
  refine wp_plain_inv 1 (specs [Is (.agg (ptc zeroE zeroE zeroE zeroE))]) (specs_stb ⟨Is.stb _, trivial⟩) (by kernel_rfl) ?_ ?_
  · refine ⟨fun a w hB hfr hdep => Step.plain rfl (Does.run _ (bu29z rfl) rfl), trivial⟩
  intro u5 hb5
  simp only [List.take, List.drop, FinAll, Act.put, List.setIfInBounds_toArray, List.set_cons_succ, List.set_cons_zero]
  rintro _ rfl
  have ohz__4 := block_below hb5 (lt_of_heap hz__4) hz__4
  refine wpList_store_row rfl 29 (.tmp 2) (.tmp 28) rfl _ (ptc zeroE zeroE zeroE zeroE) rfl rfl 29 _ ohz__4 info29 rfl (ptc_one _ _ _ _) ?_
  refine wpList_assign rfl rfl rfl ?_
  simp only [Act.put, Act.eval, List.setIfInBounds_toArray, List.set_cons_succ, List.set_cons_zero]
  have n2_5 := setRow_heap _ _ _ (ptc zeroE zeroE zeroE zeroE) _ _ ohz__4
  have hO5 := setRow_below (hO4.trans (hb5.mono (hO4).size)) lwm2_1 (ptc zeroE zeroE zeroE zeroE)
  refine hK5 _ _ ?_
  clear hK5 K5
  refine wp_ret ?_
  simp only [Exit.then]
  refine bodyPost_ret (v := .tuple #[.agg (ptc zeroE zeroE zeroE zeroE), .int .i64 2]) ?_ rfl ⟨_, rfl, hO5, ⟨_, _, rfl, rfl, rfl⟩⟩
  exact results_cell_tmp Tryd.results11 _ _ _ 29 _ (0, 0) _ _ rfl rfl n2_5 Tryd.underlying29 rfl (by first | exact info26 | exact info29 | exact info35 | (rw [(Pt4.cells (by assumption)).1]; exact info29) | (rw [cellsP_size (by assumption)]; exact info29))
theorem readCB (w : World) (hT : Tab5 w) {l : List Nat} {gx off cap c d : Nat} {bb : Bool} {e : Nat} (he : valD tab3.reverse = e) (hb : Bts l (.slice (some ⟨gx, off, none⟩) 32 cap) w) (hl : l.length = 32) (hcc : Hid (c = l.getD 31 0)) (hc256 : c < 256) (han : bits .andNot .u8 (c : Int) 128 = (d : Int)) (hbb : decide (128 ≤ c) = bb) (hl1 : (l.set 31 d).length = 32) (hd1 : Dig (l.set 31 d))
    (hgx : gx < w.heap.size) (hca : w.cell? ⟨gx, off + 31, none⟩ = some (.int .u8 (c : Int))) {y r : Fe} (hy : fe (valD (l.set 31 d)) = y) (hA : valD (l.set 31 d) < pp) (hr : rootOf e (av y) = r) (hs : ¬ r * r = av y) :
    Ret 11 #[.slice (some ⟨gx, off, none⟩) 32 cap] w (Tup2 (Is (.agg (ptc zeroE zeroE zeroE zeroE))) (Is (.int .i64 2))) := by
  unfold Ret
  have hand := and128 c hc256
  rw [hbb] at hand
  clear hbb
  have h32 : ((32 : Int) != 32) = false := rfl
  have hO0 : Below w.heap.size w w := Below.refl _ _
  go_enter Tryd.func11, Tryd.ntmps11
  refine wp_seq_k fun K1 hK1 => ?_
  refine wp_plain_inv 2 (specs [Box w.heap.size (ptc zeroE zeroE zeroE zeroE) 29, Is (.int .i64 0)]) (specs_stb ⟨Box.stb _ _ _, Is.stb _, trivial⟩) (by kernel_rfl) ?_ ?_
  · refine ⟨fun a w hB hfr hdep => Step.plain rfl (dAlloc29 hB.size rfl),
      fun a w hB hfr hdep => Step.plain rfl (dAssign (R := Is (.int .i64 0)) rfl rfl), trivial⟩
  intro u1 hb1
  simp only [List.take, List.drop, FinAll, Act.put, List.setIfInBounds_toArray, List.set_cons_succ, List.set_cons_zero]
  rintro _ ⟨g2_1, rfl, l2_1, m2_1⟩ _ rfl
  have hO1 := (hO0).trans (hb1.mono (hO0).size)
  have lwm2_1 := Nat.le_trans (hO0).size l2_1
  have hT1 := Tab5.below hT hb1
  refine hK1 _ _ ?_
  clear hK1 K1
  refine wp_seq_k fun KA hKA => ?_
  have HKA : Hid _ := hKA
  clear hKA
  go_wp2
  refine HKA.out _ _ ?_
  clear HKA KA
  refine wp_seq_k fun K2 hK2 => ?_
  refine wp_plain_inv 3 (specs [Is (.slice (some ⟨gx, off, none⟩) 32 cap), OwnC u1.heap.size l, OwnC u1.heap.size l]) (specs_stb ⟨Is.stb _, OwnC.stb _ _, OwnC.stb _ _, trivial⟩) (by kernel_rfl) ?_ ?_
  · refine ⟨fun a w hB hfr hdep => Step.plain rfl (dMove (R := Is (.slice (some ⟨gx, off, none⟩) 32 cap)) rfl (hfr 0 (by kernel_rfl))),
      fun a w hB hfr hdep => Step.plain rfl (Does.call 29 #[(a.eval (.tmp 14))] (by kernel_rfl) (ownCLo hB.size (cloneIs w (hdep 0 14 (by kernel_rfl)) (Bts.stb _ _ _ _ hB (Bts.stb _ _ _ _ hO1 hb)) hl))),
      fun a w hB hfr hdep => Step.plain rfl (dAssign (R := OwnC u1.heap.size l) rfl (hdep 1 15 (by kernel_rfl))), trivial⟩
  intro u2 hb2
  simp only [List.take, List.drop, FinAll, Act.put, List.setIfInBounds_toArray, List.set_cons_succ, List.set_cons_zero]
  rintro _ rfl v15_2 h15_2 v4_2 h4_2
  have hO2 := (hO1).trans (hb2.mono (hO1).size)
  have m2_1__2 := block_below hb2 (lt_of_heap m2_1) m2_1
  have hT2 := Tab5.below hT1 hb2
  refine hK2 _ _ ?_
  clear hK2 K2
  obtain ⟨g4, cap4, cur4, hv4, hl4, hrow4, hc4, hc4', hcur⟩ := h4_2
  rw [hl] at hv4 hcur
  subst hv4
  have c31 := cell_of_row _ g4 31 _ _ _ hrow4
  rw [hcur 31 (by omega), ← hcc.out] at c31
  have f31 := frozen_of_row _ g4 31 _ _ hrow4
  have hst := cur_set hrow4 (by rw [hl]; exact hcur) 31 d (by omega)
  have hOs := (hO2).setCell (p := ⟨g4, 31, none⟩) (by show _ ≤ g4; have := hO1.size; omega) (.int .u8 (d : Int))
  have nz : g2_1 ≠ g4 := by have := lt_of_heap m2_1; omega
  have hz2 := (heap_setCell_other u2 ⟨g4, 31, none⟩ g2_1 (.int .u8 (d : Int)) nz).trans m2_1__2
  have hTs : Tab5 (u2.setCell ⟨g4, 31, none⟩ (.int .u8 (d : Int))) := hT2.setCell (by have := hT.size; have := hO1.size; show 4 < g4; omega)
  have HOS : Hid _ := hOs
  have HZ2 : Hid _ := hz2
  have HTS : Hid _ := hTs
  have HST : Hid _ := hst
  clear hOs hz2 hTs hst
  refine wp_seq_k fun KB hKB => ?_
  have HKB : Hid _ := hKB
  clear hKB
  go_wp2
  refine HKB.out _ _ ?_
  clear HKB KB
  have hO := HOS.out
  have hz := HZ2.out
  have hT9 := HTS.out
  have hb9 : Bts (l.set 31 d) (.slice (some ⟨g4, 0, none⟩) 32 cap4) (u2.setCell ⟨g4, 31, none⟩ (.int .u8 (d : Int))) := ⟨_, _, by rw [hl1], by rw [hl1]; rw [hl] at hc4; exact hc4, hc4', fun _ => ⟨g4, 0, rfl, bytesAt_cur HST.out.1 HST.out.2⟩⟩
  clear HOS HZ2 HTS HST c31 f31
  generalize u2.setCell ⟨g4, 31, none⟩ (.int .u8 (d : Int)) = uu at hO hz hT9 hb9 ⊢
  refine wp_seq_k fun K3 hK3 => ?_
  refine wp_plain_inv 6 (specs [Bts (l.set 31 d), Tup2 (El (y)) (Is (.int .i64 0)), Tup2 (El (y)) (Is (.int .i64 0)), El (y), Is (.int .i64 0), Box uu.heap.size (elc zeroE) 27]) (specs_stb ⟨Bts.stb _, Tup2.stb (El.stb _) (Is.stb _), Tup2.stb (El.stb _) (Is.stb _), El.stb _, Is.stb _, Box.stb _ _ _, trivial⟩) (by kernel_rfl) ?_ ?_
  · refine ⟨fun a w hB hfr hdep => Step.plain rfl (dMove (R := Bts (l.set 31 d)) rfl (use (hfr 4 (by kernel_rfl)) ((Bts.stb _) _ _ _ hB hb9))),
      fun a w hB hfr hdep => Step.plain rfl (Does.call 30 #[(a.eval (.tmp 22))] (by kernel_rfl) (cReadY hy w (hdep 0 22 (by kernel_rfl)) hl1 hd1 hA)),
      fun a w hB hfr hdep => Step.plain rfl (dMove (R := Tup2 (El (y)) (Is (.int .i64 0))) rfl (hdep 1 23 (by kernel_rfl))),
      fun a w hB hfr hdep => Step.plain rfl (dExt0 rfl (hdep 2 21 (by kernel_rfl))),
      fun a w hB hfr hdep => Step.plain rfl (dExt1 rfl (hdep 2 21 (by kernel_rfl))),
      fun a w hB hfr hdep => Step.plain rfl (dAlloc27 hB.size rfl), trivial⟩
  intro u3 hb3
  simp only [List.take, List.drop, FinAll, Act.put, List.setIfInBounds_toArray, List.set_cons_succ, List.set_cons_zero]
  rintro v22_3 h22_3 v23_3 h23_3 v21_3 h21_3 _ ⟨e24_3, q24_3, rfl, x24_3⟩ _ rfl _ ⟨g5_3, rfl, l5_3, m5_3⟩
  refine wpList_store_row rfl 27 (.tmp 5) (.tmp 24) rfl _ (elc e24_3) rfl rfl 27 _ m5_3 info26 rfl (elc_one _) ?_
  have n5_3 := setRow_heap _ _ _ (elc e24_3) _ _ m5_3
  replace hb3 := setRow_below hb3 l5_3 (elc e24_3)
  generalize hw3_1 : u3.setRow g5_3 (elc e24_3) = u3_1 at n5_3 hb3  ⊢
  clear hw3_1 m5_3
  refine wpList_assign rfl rfl rfl ?_
  simp only [Act.put, Act.eval, Array.getD_eq_getD_getElem?, List.getElem?_toArray, List.getElem?_cons_succ, List.getElem?_cons_zero, Option.getD_some, List.setIfInBounds_toArray, List.set_cons_succ, List.set_cons_zero]
  have hO3 := (hO).trans (hb3.mono (hO).size)
  have hz__3 := block_below hb3 (lt_of_heap hz) hz
  have lwn5_3 := Nat.le_trans (hO).size l5_3
  have hT3 := Tab5.below hT9 hb3
  refine hK3 _ _ ?_
  clear hK3 K3
  refine wp_seq_k fun KO6 hKO6 => ?_
  refine wp_seq_k fun K4 hK4 => ?_
  refine wp_plain_inv 2 (specs [Is (.int .i64 0), Is (.bool false)]) (specs_stb ⟨Is.stb _, Is.stb _, trivial⟩) (by kernel_rfl) ?_ ?_
  · refine ⟨fun a w hB hfr hdep => Step.plain rfl (dMove (R := Is (.int .i64 0)) rfl (hfr 6 (by kernel_rfl))),
      fun a w hB hfr hdep => Step.plain rfl (Does.run _ (run_binO rfl (hdep 0 26 (by kernel_rfl)) rfl (by kernel_rfl)) rfl), trivial⟩
  intro u4 hb4
  simp only [List.take, List.drop, FinAll, Act.put, List.setIfInBounds_toArray, List.set_cons_succ, List.set_cons_zero]
  rintro _ rfl _ rfl
  have hO4 := (hO3).trans (hb4.mono (hO3).size)
  have hz__4 := block_below hb4 (lt_of_heap hz__3) hz__3
  have n5_3__4 := block_below hb4 (lt_of_heap n5_3) n5_3
  have hT4 := Tab5.below hT3 hb4
  refine hK4 _ _ ?_
  clear hK4 K4
  refine wp_cond_false rfl ?_
  refine wp_skip ?_
  refine hKO6 _ _ ?_
  clear hKO6 KO6
  refine wp_seq_k fun K5 hK5 => ?_
  refine wp_plain_inv 6 (specs [El (y), Tup2 (El (r)) (Is (.bool false)), Tup2 (El (r)) (Is (.bool false)), El (r), Is (.bool false), Box u4.heap.size (elc zeroE) 27]) (specs_stb ⟨El.stb _, Tup2.stb (El.stb _) (Is.stb _), Tup2.stb (El.stb _) (Is.stb _), El.stb _, Is.stb _, Box.stb _ _ _, trivial⟩) (by kernel_rfl) ?_ ?_
  · refine ⟨fun a w hB hfr hdep => Step.plain rfl (dLoadEl q24_3 x24_3 (block_below hB (lt_of_heap n5_3__4) n5_3__4) rfl (hfr 5 (by kernel_rfl)) (fun _ h => h)),
      fun a w hB hfr hdep => Step.plain rfl (Does.call 31 #[(a.eval (.tmp 30))] (by kernel_rfl) (cXWithF he hr hs w w (Tab5.below hT4 hB) (hdep 0 30 (by kernel_rfl)))),
      fun a w hB hfr hdep => Step.plain rfl (dMove (R := Tup2 (El (r)) (Is (.bool false))) rfl (hdep 1 31 (by kernel_rfl))),
      fun a w hB hfr hdep => Step.plain rfl (dExt0 rfl (hdep 2 29 (by kernel_rfl))),
      fun a w hB hfr hdep => Step.plain rfl (dExt1 rfl (hdep 2 29 (by kernel_rfl))),
      fun a w hB hfr hdep => Step.plain rfl (dAlloc27 hB.size rfl), trivial⟩
  intro u5 hb5
  simp only [List.take, List.drop, FinAll, Act.put, List.setIfInBounds_toArray, List.set_cons_succ, List.set_cons_zero]
  rintro v30_5 h30_5 v31_5 h31_5 v29_5 h29_5 _ ⟨e32_5, q32_5, rfl, x32_5⟩ _ rfl _ ⟨g7_5, rfl, l7_5, m7_5⟩
  refine wpList_store_row rfl 27 (.tmp 7) (.tmp 32) rfl _ (elc e32_5) rfl rfl 27 _ m7_5 info26 rfl (elc_one _) ?_
  have n7_5 := setRow_heap _ _ _ (elc e32_5) _ _ m7_5
  replace hb5 := setRow_below hb5 l7_5 (elc e32_5)
  generalize hw5_1 : u5.setRow g7_5 (elc e32_5) = u5_1 at n7_5 hb5  ⊢
  clear hw5_1 m7_5
  refine wpList_assign rfl rfl rfl ?_
  simp only [Act.put, Act.eval, Array.getD_eq_getD_getElem?, List.getElem?_toArray, List.getElem?_cons_succ, List.getElem?_cons_zero, Option.getD_some, List.setIfInBounds_toArray, List.set_cons_succ, List.set_cons_zero]
  have hO5 := (hO4).trans (hb5.mono (hO4).size)
  have hz__5 := block_below hb5 (lt_of_heap hz__4) hz__4
  have n5_3__5 := block_below hb5 (lt_of_heap n5_3__4) n5_3__4
  have lwn7_5 := Nat.le_trans (hO4).size l7_5
  have hT5 := Tab5.below hT4 hb5
  refine hK5 _ _ ?_
  clear hK5 K5
  refine wp_seq_k fun KO9 hKO9 => ?_
  refine wp_seq_k fun K6 hK6 => ?_
  refine wp_plain_inv 2 (specs [Is (.bool false), Is (.bool true)]) (specs_stb ⟨Is.stb _, Is.stb _, trivial⟩) (by kernel_rfl) ?_ ?_
  · refine ⟨fun a w hB hfr hdep => Step.plain rfl (dMove (R := Is (.bool false)) rfl (hfr 8 (by kernel_rfl))),
      fun a w hB hfr hdep => Step.plain rfl (Does.run _ (run_notO rfl (hdep 0 34 (by kernel_rfl))) rfl), trivial⟩
  intro u6 hb6
  simp only [List.take, List.drop, FinAll, Act.put, List.setIfInBounds_toArray, List.set_cons_succ, List.set_cons_zero]
  rintro _ rfl _ rfl
  have hO6 := (hO5).trans (hb6.mono (hO5).size)
  have hz__6 := block_below hb6 (lt_of_heap hz__5) hz__5
  have n5_3__6 := block_below hb6 (lt_of_heap n5_3__5) n5_3__5
  have n7_5__6 := block_below hb6 (lt_of_heap n7_5) n7_5
  have hT6 := Tab5.below hT5 hb6
  refine hK6 _ _ ?_
  clear hK6 K6
  refine wp_cond_true rfl ?_
  refine wp_seq_k fun K7 hK7 => ?_
  refine wp_plain_inv 1 (specs [Is (.agg (ptc zeroE zeroE zeroE zeroE))]) (specs_stb ⟨Is.stb _, trivial⟩) (by kernel_rfl) ?_ ?_
  · refine ⟨fun a w hB hfr hdep => Step.plain rfl (Does.run _ (bu29z rfl) rfl), trivial⟩
  intro u7 hb7
  simp only [List.take, List.drop, FinAll, Act.put, List.setIfInBounds_toArray, List.set_cons_succ, List.set_cons_zero]
  rintro _ rfl
  have ohz__6 := block_below hb7 (lt_of_heap hz__6) hz__6
  refine wpList_store_row rfl 29 (.tmp 2) (.tmp 36) rfl _ (ptc zeroE zeroE zeroE zeroE) rfl rfl 29 _ ohz__6 info29 rfl (ptc_one _ _ _ _) ?_
  refine wpList_assign rfl rfl rfl ?_
  simp only [Act.put, Act.eval, List.setIfInBounds_toArray, List.set_cons_succ, List.set_cons_zero]
  have n2_7 := setRow_heap _ _ _ (ptc zeroE zeroE zeroE zeroE) _ _ ohz__6
  have hO7 := setRow_below (hO6.trans (hb7.mono (hO6).size)) lwm2_1 (ptc zeroE zeroE zeroE zeroE)
  refine hK7 _ _ ?_
  clear hK7 K7
  refine wp_ret ?_
  simp only [Exit.then]
  refine bodyPost_ret (v := .tuple #[.agg (ptc zeroE zeroE zeroE zeroE), .int .i64 2]) ?_ rfl ⟨_, rfl, hO7, ⟨_, _, rfl, rfl, rfl⟩⟩
  exact results_cell_tmp Tryd.results11 _ _ _ 29 _ (0, 0) _ _ rfl rfl n2_7 Tryd.underlying29 rfl (by first | exact info26 | exact info29 | exact info35 | (rw [(Pt4.cells (by assumption)).1]; exact info29) | (rw [cellsP_size (by assumption)]; exact info29))
theorem readCC (w : World) (hT : Tab5 w) {l : List Nat} {gx off cap c d : Nat} {bb : Bool} {e : Nat} (he : valD tab3.reverse = e) (hb : Bts l (.slice (some ⟨gx, off, none⟩) 32 cap) w) (hl : l.length = 32) (hcc : Hid (c = l.getD 31 0)) (hc256 : c < 256) (han : bits .andNot .u8 (c : Int) 128 = (d : Int)) (hbb : decide (128 ≤ c) = bb) (hl1 : (l.set 31 d).length = 32) (hd1 : Dig (l.set 31 d))
    (hgx : gx < w.heap.size) (hca : w.cell? ⟨gx, off + 31, none⟩ = some (.int .u8 (c : Int))) {y r : Fe} {p : Pt} (hy : fe (valD (l.set 31 d)) = y) (hA : valD (l.set 31 d) < pp) (hr : rootOf e (av y) = r) (hs : r * r = av y) (ho1 : decide (r.val % 2 = 1) = bb) (hpx : p.x = r) (hpy : p.y = y) :
    Ret 11 #[.slice (some ⟨gx, off, none⟩) 32 cap] w (Tup2 (PtV p) (Is (.int .i64 0))) := by
  unfold Ret
  have hand := and128 c hc256
  rw [hbb] at hand
  clear hbb
  have ho2 := ho1
  have h32 : ((32 : Int) != 32) = false := rfl
  have hO0 : Below w.heap.size w w := Below.refl _ _
  go_enter Tryd.func11, Tryd.ntmps11
  refine wp_seq_k fun K1 hK1 => ?_
  refine wp_plain_inv 2 (specs [Box w.heap.size (ptc zeroE zeroE zeroE zeroE) 29, Is (.int .i64 0)]) (specs_stb ⟨Box.stb _ _ _, Is.stb _, trivial⟩) (by kernel_rfl) ?_ ?_
  · refine ⟨fun a w hB hfr hdep => Step.plain rfl (dAlloc29 hB.size rfl),
      fun a w hB hfr hdep => Step.plain rfl (dAssign (R := Is (.int .i64 0)) rfl rfl), trivial⟩
  intro u1 hb1
  simp only [List.take, List.drop, FinAll, Act.put, List.setIfInBounds_toArray, List.set_cons_succ, List.set_cons_zero]
  rintro _ ⟨g2_1, rfl, l2_1, m2_1⟩ _ rfl
  have hO1 := (hO0).trans (hb1.mono (hO0).size)
  have lwm2_1 := Nat.le_trans (hO0).size l2_1
  have hT1 := Tab5.below hT hb1
  refine hK1 _ _ ?_
  clear hK1 K1
  refine wp_seq_k fun KA hKA => ?_
  have HKA : Hid _ := hKA
  clear hKA
  go_wp2
  refine HKA.out _ _ ?_
  clear HKA KA
  refine wp_seq_k fun K2 hK2 => ?_
  refine wp_plain_inv 3 (specs [Is (.slice (some ⟨gx, off, none⟩) 32 cap), OwnC u1.heap.size l, OwnC u1.heap.size l]) (specs_stb ⟨Is.stb _, OwnC.stb _ _, OwnC.stb _ _, trivial⟩) (by kernel_rfl) ?_ ?_
  · refine ⟨fun a w hB hfr hdep => Step.plain rfl (dMove (R := Is (.slice (some ⟨gx, off, none⟩) 32 cap)) rfl (hfr 0 (by kernel_rfl))),
      fun a w hB hfr hdep => Step.plain rfl (Does.call 29 #[(a.eval (.tmp 14))] (by kernel_rfl) (ownCLo hB.size (cloneIs w (hdep 0 14 (by kernel_rfl)) (Bts.stb _ _ _ _ hB (Bts.stb _ _ _ _ hO1 hb)) hl))),
      fun a w hB hfr hdep => Step.plain rfl (dAssign (R := OwnC u1.heap.size l) rfl (hdep 1 15 (by kernel_rfl))), trivial⟩
  intro u2 hb2
  simp only [List.take, List.drop, FinAll, Act.put, List.setIfInBounds_toArray, List.set_cons_succ, List.set_cons_zero]
  rintro _ rfl v15_2 h15_2 v4_2 h4_2
  have hO2 := (hO1).trans (hb2.mono (hO1).size)
  have m2_1__2 := block_below hb2 (lt_of_heap m2_1) m2_1
  have hT2 := Tab5.below hT1 hb2
  refine hK2 _ _ ?_
  clear hK2 K2
  obtain ⟨g4, cap4, cur4, hv4, hl4, hrow4, hc4, hc4', hcur⟩ := h4_2
  rw [hl] at hv4 hcur
  subst hv4
  have c31 := cell_of_row _ g4 31 _ _ _ hrow4
  rw [hcur 31 (by omega), ← hcc.out] at c31
  have f31 := frozen_of_row _ g4 31 _ _ hrow4
  have hst := cur_set hrow4 (by rw [hl]; exact hcur) 31 d (by omega)
  have hOs := (hO2).setCell (p := ⟨g4, 31, none⟩) (by show _ ≤ g4; have := hO1.size; omega) (.int .u8 (d : Int))
  have nz : g2_1 ≠ g4 := by have := lt_of_heap m2_1; omega
  have hz2 := (heap_setCell_other u2 ⟨g4, 31, none⟩ g2_1 (.int .u8 (d : Int)) nz).trans m2_1__2
  have hTs : Tab5 (u2.setCell ⟨g4, 31, none⟩ (.int .u8 (d : Int))) := hT2.setCell (by have := hT.size; have := hO1.size; show 4 < g4; omega)
  have HOS : Hid _ := hOs
  have HZ2 : Hid _ := hz2
  have HTS : Hid _ := hTs
  have HST : Hid _ := hst
  clear hOs hz2 hTs hst
  refine wp_seq_k fun KB hKB => ?_
  have HKB : Hid _ := hKB
  clear hKB
  go_wp2
  refine HKB.out _ _ ?_
  clear HKB KB
  have hO := HOS.out
  have hz := HZ2.out
  have hT9 := HTS.out
  have hb9 : Bts (l.set 31 d) (.slice (some ⟨g4, 0, none⟩) 32 cap4) (u2.setCell ⟨g4, 31, none⟩ (.int .u8 (d : Int))) := ⟨_, _, by rw [hl1], by rw [hl1]; rw [hl] at hc4; exact hc4, hc4', fun _ => ⟨g4, 0, rfl, bytesAt_cur HST.out.1 HST.out.2⟩⟩
  clear HOS HZ2 HTS HST c31 f31
  generalize u2.setCell ⟨g4, 31, none⟩ (.int .u8 (d : Int)) = uu at hO hz hT9 hb9 ⊢
  refine wp_seq_k fun K3 hK3 => ?_
  refine wp_plain_inv 6 (specs [Bts (l.set 31 d), Tup2 (El (y)) (Is (.int .i64 0)), Tup2 (El (y)) (Is (.int .i64 0)), El (y), Is (.int .i64 0), Box uu.heap.size (elc zeroE) 27]) (specs_stb ⟨Bts.stb _, Tup2.stb (El.stb _) (Is.stb _), Tup2.stb (El.stb _) (Is.stb _), El.stb _, Is.stb _, Box.stb _ _ _, trivial⟩) (by kernel_rfl) ?_ ?_
  · refine ⟨fun a w hB hfr hdep => Step.plain rfl (dMove (R := Bts (l.set 31 d)) rfl (use (hfr 4 (by kernel_rfl)) ((Bts.stb _) _ _ _ hB hb9))),
      fun a w hB hfr hdep => Step.plain rfl (Does.call 30 #[(a.eval (.tmp 22))] (by kernel_rfl) (cReadY hy w (hdep 0 22 (by kernel_rfl)) hl1 hd1 hA)),
      fun a w hB hfr hdep => Step.plain rfl (dMove (R := Tup2 (El (y)) (Is (.int .i64 0))) rfl (hdep 1 23 (by kernel_rfl))),
      fun a w hB hfr hdep => Step.plain rfl (dExt0 rfl (hdep 2 21 (by kernel_rfl))),
      fun a w hB hfr hdep => Step.plain rfl (dExt1 rfl (hdep 2 21 (by kernel_rfl))),
      fun a w hB hfr hdep => Step.plain rfl (dAlloc27 hB.size rfl), trivial⟩
  intro u3 hb3
  simp only [List.take, List.drop, FinAll, Act.put, List.setIfInBounds_toArray, List.set_cons_succ, List.set_cons_zero]
  rintro v22_3 h22_3 v23_3 h23_3 v21_3 h21_3 _ ⟨e24_3, q24_3, rfl, x24_3⟩ _ rfl _ ⟨g5_3, rfl, l5_3, m5_3⟩
  refine wpList_store_row rfl 27 (.tmp 5) (.tmp 24) rfl _ (elc e24_3) rfl rfl 27 _ m5_3 info26 rfl (elc_one _) ?_
  have n5_3 := setRow_heap _ _ _ (elc e24_3) _ _ m5_3
  replace hb3 := setRow_below hb3 l5_3 (elc e24_3)
  generalize hw3_1 : u3.setRow g5_3 (elc e24_3) = u3_1 at n5_3 hb3  ⊢
  clear hw3_1 m5_3
  refine wpList_assign rfl rfl rfl ?_
  simp only [Act.put, Act.eval, Array.getD_eq_getD_getElem?, List.getElem?_toArray, List.getElem?_cons_succ, List.getElem?_cons_zero, Option.getD_some, List.setIfInBounds_toArray, List.set_cons_succ, List.set_cons_zero]
  have hO3 := (hO).trans (hb3.mono (hO).size)
  have hz__3 := block_below hb3 (lt_of_heap hz) hz
  have lwn5_3 := Nat.le_trans (hO).size l5_3
  have hT3 := Tab5.below hT9 hb3
  refine hK3 _ _ ?_
  clear hK3 K3
  refine wp_seq_k fun KO6 hKO6 => ?_
  refine wp_seq_k fun K4 hK4 => ?_
  refine wp_plain_inv 2 (specs [Is (.int .i64 0), Is (.bool false)]) (specs_stb ⟨Is.stb _, Is.stb _, trivial⟩) (by kernel_rfl) ?_ ?_
  · refine ⟨fun a w hB hfr hdep => Step.plain rfl (dMove (R := Is (.int .i64 0)) rfl (hfr 6 (by kernel_rfl))),
      fun a w hB hfr hdep => Step.plain rfl (Does.run _ (run_binO rfl (hdep 0 26 (by kernel_rfl)) rfl (by kernel_rfl)) rfl), trivial⟩
  intro u4 hb4
  simp only [List.take, List.drop, FinAll, Act.put, List.setIfInBounds_toArray, List.set_cons_succ, List.set_cons_zero]
  rintro _ rfl _ rfl
  have hO4 := (hO3).trans (hb4.mono (hO3).size)
  have hz__4 := block_below hb4 (lt_of_heap hz__3) hz__3
  have n5_3__4 := block_below hb4 (lt_of_heap n5_3) n5_3
  have hT4 := Tab5.below hT3 hb4
  refine hK4 _ _ ?_
  clear hK4 K4
  refine wp_cond_false rfl ?_
  refine wp_skip ?_
  refine hKO6 _ _ ?_
  clear hKO6 KO6
  refine wp_seq_k fun K5 hK5 => ?_
  refine wp_plain_inv 6 (specs [El (y), Tup2 (El (r)) (Is (.bool true)), Tup2 (El (r)) (Is (.bool true)), El (r), Is (.bool true), Box u4.heap.size (elc zeroE) 27]) (specs_stb ⟨El.stb _, Tup2.stb (El.stb _) (Is.stb _), Tup2.stb (El.stb _) (Is.stb _), El.stb _, Is.stb _, Box.stb _ _ _, trivial⟩) (by kernel_rfl) ?_ ?_
  · refine ⟨fun a w hB hfr hdep => Step.plain rfl (dLoadEl q24_3 x24_3 (block_below hB (lt_of_heap n5_3__4) n5_3__4) rfl (hfr 5 (by kernel_rfl)) (fun _ h => h)),
      fun a w hB hfr hdep => Step.plain rfl (Does.call 31 #[(a.eval (.tmp 30))] (by kernel_rfl) (cXWithT he hr hs w w (Tab5.below hT4 hB) (hdep 0 30 (by kernel_rfl)))),
      fun a w hB hfr hdep => Step.plain rfl (dMove (R := Tup2 (El (r)) (Is (.bool true))) rfl (hdep 1 31 (by kernel_rfl))),
      fun a w hB hfr hdep => Step.plain rfl (dExt0 rfl (hdep 2 29 (by kernel_rfl))),
      fun a w hB hfr hdep => Step.plain rfl (dExt1 rfl (hdep 2 29 (by kernel_rfl))),
      fun a w hB hfr hdep => Step.plain rfl (dAlloc27 hB.size rfl), trivial⟩
  intro u5 hb5
  simp only [List.take, List.drop, FinAll, Act.put, List.setIfInBounds_toArray, List.set_cons_succ, List.set_cons_zero]
  rintro v30_5 h30_5 v31_5 h31_5 v29_5 h29_5 _ ⟨e32_5, q32_5, rfl, x32_5⟩ _ rfl _ ⟨g7_5, rfl, l7_5, m7_5⟩
  refine wpList_store_row rfl 27 (.tmp 7) (.tmp 32) rfl _ (elc e32_5) rfl rfl 27 _ m7_5 info26 rfl (elc_one _) ?_
  have n7_5 := setRow_heap _ _ _ (elc e32_5) _ _ m7_5
  replace hb5 := setRow_below hb5 l7_5 (elc e32_5)
  generalize hw5_1 : u5.setRow g7_5 (elc e32_5) = u5_1 at n7_5 hb5  ⊢
  clear hw5_1 m7_5
  refine wpList_assign rfl rfl rfl ?_
  simp only [Act.put, Act.eval, Array.getD_eq_getD_getElem?, List.getElem?_toArray, List.getElem?_cons_succ, List.getElem?_cons_zero, Option.getD_some, List.setIfInBounds_toArray, List.set_cons_succ, List.set_cons_zero]
  have hO5 := (hO4).trans (hb5.mono (hO4).size)
  have hz__5 := block_below hb5 (lt_of_heap hz__4) hz__4
  have n5_3__5 := block_below hb5 (lt_of_heap n5_3__4) n5_3__4
  have lwn7_5 := Nat.le_trans (hO4).size l7_5
  have hT5 := Tab5.below hT4 hb5
  refine hK5 _ _ ?_
  clear hK5 K5
  refine wp_seq_k fun KO9 hKO9 => ?_
  refine wp_seq_k fun K6 hK6 => ?_
  refine wp_plain_inv 2 (specs [Is (.bool true), Is (.bool false)]) (specs_stb ⟨Is.stb _, Is.stb _, trivial⟩) (by kernel_rfl) ?_ ?_
  · refine ⟨fun a w hB hfr hdep => Step.plain rfl (dMove (R := Is (.bool true)) rfl (hfr 8 (by kernel_rfl))),
      fun a w hB hfr hdep => Step.plain rfl (Does.run _ (run_notO rfl (hdep 0 34 (by kernel_rfl))) rfl), trivial⟩
  intro u6 hb6
  simp only [List.take, List.drop, FinAll, Act.put, List.setIfInBounds_toArray, List.set_cons_succ, List.set_cons_zero]
  rintro _ rfl _ rfl
  have hO6 := (hO5).trans (hb6.mono (hO5).size)
  have hz__6 := block_below hb6 (lt_of_heap hz__5) hz__5
  have n5_3__6 := block_below hb6 (lt_of_heap n5_3__5) n5_3__5
  have n7_5__6 := block_below hb6 (lt_of_heap n7_5) n7_5
  have hT6 := Tab5.below hT5 hb6
  refine hK6 _ _ ?_
  clear hK6 K6
  refine wp_cond_false rfl ?_
  refine wp_skip ?_
  refine hKO9 _ _ ?_
  clear hKO9 KO9
  have ca := (hO6.cell (p := ⟨gx, off + 31, none⟩) hgx).trans hca
  refine wp_seq_k fun KC hKC => ?_
  have HKC : Hid _ := hKC
  clear hKC
  go_wp2
  refine HKC.out _ _ ?_
  clear HKC KC
  refine wp_seq_k fun KO12 hKO12 => ?_
  refine wp_seq_k fun K7 hK7 => ?_
  refine wp_plain_inv 4 (specs [El (r), Is (.bool bb), Is (.bool bb), Is (.bool false)]) (specs_stb ⟨El.stb _, Is.stb _, Is.stb _, Is.stb _, trivial⟩) (by kernel_rfl) ?_ ?_
  · refine ⟨fun a w hB hfr hdep => Step.plain rfl (dLoadEl q32_5 x32_5 (block_below hB (lt_of_heap n7_5__6) n7_5__6) rfl (hfr 7 (by kernel_rfl)) (fun _ h => h)),
      fun a w hB hfr hdep => Step.plain rfl (Does.call 32 #[(a.eval (.tmp 42))] (by kernel_rfl) (cOddB ho1 w w (hdep 0 42 (by kernel_rfl)))),
      fun a w hB hfr hdep => Step.plain rfl (dMove (R := Is (.bool bb)) rfl (hfr 9 (by kernel_rfl))),
      fun a w hB hfr hdep => Step.plain rfl (Does.run _ (run_neqS rfl (hdep 1 43 (by kernel_rfl)) (hdep 2 44 (by kernel_rfl))) rfl), trivial⟩
  intro u7 hb7
  simp only [List.take, List.drop, FinAll, Act.put, List.setIfInBounds_toArray, List.set_cons_succ, List.set_cons_zero]
  rintro v42_7 h42_7 _ rfl _ rfl _ rfl
  have hO7 := (hO6).trans (hb7.mono (hO6).size)
  have hz__7 := block_below hb7 (lt_of_heap hz__6) hz__6
  have n5_3__7 := block_below hb7 (lt_of_heap n5_3__6) n5_3__6
  have n7_5__7 := block_below hb7 (lt_of_heap n7_5__6) n7_5__6
  have hT7 := Tab5.below hT6 hb7
  refine hK7 _ _ ?_
  clear hK7 K7
  refine wp_cond_false rfl ?_
  refine wp_skip ?_
  refine hKO12 _ _ ?_
  clear hKO12 KO12
  refine wp_seq_k fun KO14 hKO14 => ?_
  refine wp_seq_k fun K8 hK8 => ?_
  refine wp_plain_inv 4 (specs [El (r), Is (.bool bb), Is (.bool bb), Is (.bool false)]) (specs_stb ⟨El.stb _, Is.stb _, Is.stb _, Is.stb _, trivial⟩) (by kernel_rfl) ?_ ?_
  · refine ⟨fun a w hB hfr hdep => Step.plain rfl (dLoadEl q32_5 x32_5 (block_below hB (lt_of_heap n7_5__7) n7_5__7) rfl (hfr 7 (by kernel_rfl)) (fun _ h => h)),
      fun a w hB hfr hdep => Step.plain rfl (Does.call 32 #[(a.eval (.tmp 48))] (by kernel_rfl) (cOddB ho2 w w (hdep 0 48 (by kernel_rfl)))),
      fun a w hB hfr hdep => Step.plain rfl (dMove (R := Is (.bool bb)) rfl (hfr 9 (by kernel_rfl))),
      fun a w hB hfr hdep => Step.plain rfl (Does.run _ (run_neqS rfl (hdep 1 49 (by kernel_rfl)) (hdep 2 50 (by kernel_rfl))) rfl), trivial⟩
  intro u8 hb8
  simp only [List.take, List.drop, FinAll, Act.put, List.setIfInBounds_toArray, List.set_cons_succ, List.set_cons_zero]
  rintro v48_8 h48_8 _ rfl _ rfl _ rfl
  have hO8 := (hO7).trans (hb8.mono (hO7).size)
  have hz__8 := block_below hb8 (lt_of_heap hz__7) hz__7
  have n5_3__8 := block_below hb8 (lt_of_heap n5_3__7) n5_3__7
  have n7_5__8 := block_below hb8 (lt_of_heap n7_5__7) n7_5__7
  have hT8 := Tab5.below hT7 hb8
  refine hK8 _ _ ?_
  clear hK8 K8
  refine wp_cond_false rfl ?_
  refine wp_skip ?_
  refine hKO14 _ _ ?_
  clear hKO14 KO14
  refine wp_seq_k fun K9 hK9 => ?_
  refine wp_plain_inv 3 (specs [El (r), El (y), Pt4 (r) (y) (1) ((r) * (y))]) (specs_stb ⟨El.stb _, El.stb _, Pt4.stb _ _ _ _, trivial⟩) (by kernel_rfl) ?_ ?_
  · refine ⟨fun a w hB hfr hdep => Step.plain rfl (dLoadEl q32_5 x32_5 (block_below hB (lt_of_heap n7_5__8) n7_5__8) rfl (hfr 7 (by kernel_rfl)) (fun _ h => h)),
      fun a w hB hfr hdep => Step.plain rfl (dLoadEl q24_3 x24_3 (block_below hB (lt_of_heap n5_3__8) n5_3__8) rfl (hfr 5 (by kernel_rfl)) (fun _ h => h)),
      fun a w hB hfr hdep => Step.plain rfl (Does.call 34 #[(a.eval (.tmp 53)), (a.eval (.tmp 54))] (by kernel_rfl) (cOfPair w w w (hdep 0 53 (by kernel_rfl)) (hdep 1 54 (by kernel_rfl)))), trivial⟩
  intro u9 hb9
  simp only [List.take, List.drop, FinAll, Act.put, List.setIfInBounds_toArray, List.set_cons_succ, List.set_cons_zero]
  rintro v53_9 h53_9 v54_9 h54_9 _ ⟨e55_9, rfl, x55_9⟩
  have ohz__8 := block_below hb9 (lt_of_heap hz__8) hz__8
  refine wpList_store_row rfl 29 (.tmp 2) (.tmp 55) rfl _ (e55_9) rfl rfl 29 _ ohz__8 (by rw [(Pt4.cells x55_9).1]; exact info29) (by rw [(Pt4.cells x55_9).1]; rfl) (Pt4.cells x55_9).2 ?_
  refine wpList_assign rfl rfl rfl ?_
  simp only [Act.put, Act.eval, List.setIfInBounds_toArray, List.set_cons_succ, List.set_cons_zero]
  have n2_9 := setRow_heap _ _ _ (e55_9) _ _ ohz__8
  have hO9 := setRow_below (hO8.trans (hb9.mono (hO8).size)) lwm2_1 (e55_9)
  have hpp : Rep (r) (y) (1) ((r) * (y)) p := by have := rep_aff p; rw [hpx, hpy] at this; exact this
  refine hK9 _ _ ?_
  clear hK9 K9
  refine wp_ret ?_
  refine bodyPost_ret (v := .tuple #[.agg (e55_9), .int .i64 0]) ?_ rfl ⟨_, rfl, hO9, ⟨_, _, rfl, ⟨_, rfl, _, _, _, _, x55_9, hpp⟩, rfl⟩⟩
  exact results_cell_tmp Tryd.results11 _ _ _ 29 _ (0, 0) _ _ rfl rfl n2_9 Tryd.underlying29 rfl (by first | exact info26 | exact info29 | exact info35 | (rw [(Pt4.cells (by assumption)).1]; exact info29) | (rw [cellsP_size (by assumption)]; exact info29))
theorem readCD (w : World) (hT : Tab5 w) {l : List Nat} {gx off cap c d : Nat} {bb : Bool} {e : Nat} (he : valD tab3.reverse = e) (hb : Bts l (.slice (some ⟨gx, off, none⟩) 32 cap) w) (hl : l.length = 32) (hcc : Hid (c = l.getD 31 0)) (hc256 : c < 256) (han : bits .andNot .u8 (c : Int) 128 = (d : Int)) (hbb : decide (128 ≤ c) = bb) (hl1 : (l.set 31 d).length = 32) (hd1 : Dig (l.set 31 d))
    (hgx : gx < w.heap.size) (hca : w.cell? ⟨gx, off + 31, none⟩ = some (.int .u8 (c : Int))) {y r : Fe} {p : Pt} (hy : fe (valD (l.set 31 d)) = y) (hA : valD (l.set 31 d) < pp) (hr : rootOf e (av y) = r) (hs : r * r = av y) (ho1 : decide (r.val % 2 = 1) = !bb) (ho2 : decide ((0 - r).val % 2 = 1) = bb) (hpx : p.x = 0 - (r)) (hpy : p.y = y) :
    Ret 11 #[.slice (some ⟨gx, off, none⟩) 32 cap] w (Tup2 (PtV p) (Is (.int .i64 0))) := by
  unfold Ret
  have hand := and128 c hc256
  rw [hbb] at hand
  clear hbb
  have h32 : ((32 : Int) != 32) = false := rfl
  have hO0 : Below w.heap.size w w := Below.refl _ _
  go_enter Tryd.func11, Tryd.ntmps11
  refine wp_seq_k fun K1 hK1 => ?_
  refine wp_plain_inv 2 (specs [Box w.heap.size (ptc zeroE zeroE zeroE zeroE) 29, Is (.int .i64 0)]) (specs_stb ⟨Box.stb _ _ _, Is.stb _, trivial⟩) (by kernel_rfl) ?_ ?_
  · refine ⟨fun a w hB hfr hdep => Step.plain rfl (dAlloc29 hB.size rfl),
      fun a w hB hfr hdep => Step.plain rfl (dAssign (R := Is (.int .i64 0)) rfl rfl), trivial⟩
  intro u1 hb1
  simp only [List.take, List.drop, FinAll, Act.put, List.setIfInBounds_toArray, List.set_cons_succ, List.set_cons_zero]
  rintro _ ⟨g2_1, rfl, l2_1, m2_1⟩ _ rfl
  have hO1 := (hO0).trans (hb1.mono (hO0).size)
  have lwm2_1 := Nat.le_trans (hO0).size l2_1
  have hT1 := Tab5.below hT hb1
  refine hK1 _ _ ?_
  clear hK1 K1
  refine wp_seq_k fun KA hKA => ?_
  have HKA : Hid _ := hKA
  clear hKA
  go_wp2
  refine HKA.out _ _ ?_
  clear HKA KA
  refine wp_seq_k fun K2 hK2 => ?_
  refine wp_plain_inv 3 (specs [Is (.slice (some ⟨gx, off, none⟩) 32 cap), OwnC u1.heap.size l, OwnC u1.heap.size l]) (specs_stb ⟨Is.stb _, OwnC.stb _ _, OwnC.stb _ _, trivial⟩) (by kernel_rfl) ?_ ?_
  · refine ⟨fun a w hB hfr hdep => Step.plain rfl (dMove (R := Is (.slice (some ⟨gx, off, none⟩) 32 cap)) rfl (hfr 0 (by kernel_rfl))),
      fun a w hB hfr hdep => Step.plain rfl (Does.call 29 #[(a.eval (.tmp 14))] (by kernel_rfl) (ownCLo hB.size (cloneIs w (hdep 0 14 (by kernel_rfl)) (Bts.stb _ _ _ _ hB (Bts.stb _ _ _ _ hO1 hb)) hl))),
      fun a w hB hfr hdep => Step.plain rfl (dAssign (R := OwnC u1.heap.size l) rfl (hdep 1 15 (by kernel_rfl))), trivial⟩
  intro u2 hb2
  simp only [List.take, List.drop, FinAll, Act.put, List.setIfInBounds_toArray, List.set_cons_succ, List.set_cons_zero]
  rintro _ rfl v15_2 h15_2 v4_2 h4_2
  have hO2 := (hO1).trans (hb2.mono (hO1).size)
  have m2_1__2 := block_below hb2 (lt_of_heap m2_1) m2_1
  have hT2 := Tab5.below hT1 hb2
  refine hK2 _ _ ?_
  clear hK2 K2
  obtain ⟨g4, cap4, cur4, hv4, hl4, hrow4, hc4, hc4', hcur⟩ := h4_2
  rw [hl] at hv4 hcur
  subst hv4
  have c31 := cell_of_row _ g4 31 _ _ _ hrow4
  rw [hcur 31 (by omega), ← hcc.out] at c31
  have f31 := frozen_of_row _ g4 31 _ _ hrow4
  have hst := cur_set hrow4 (by rw [hl]; exact hcur) 31 d (by omega)
  have hOs := (hO2).setCell (p := ⟨g4, 31, none⟩) (by show _ ≤ g4; have := hO1.size; omega) (.int .u8 (d : Int))
  have nz : g2_1 ≠ g4 := by have := lt_of_heap m2_1; omega
  have hz2 := (heap_setCell_other u2 ⟨g4, 31, none⟩ g2_1 (.int .u8 (d : Int)) nz).trans m2_1__2
  have hTs : Tab5 (u2.setCell ⟨g4, 31, none⟩ (.int .u8 (d : Int))) := hT2.setCell (by have := hT.size; have := hO1.size; show 4 < g4; omega)
  have HOS : Hid _ := hOs
  have HZ2 : Hid _ := hz2
  have HTS : Hid _ := hTs
  have HST : Hid _ := hst
  clear hOs hz2 hTs hst
  refine wp_seq_k fun KB hKB => ?_
  have HKB : Hid _ := hKB
  clear hKB
  go_wp2
  refine HKB.out _ _ ?_
  clear HKB KB
  have hO := HOS.out
  have hz := HZ2.out
  have hT9 := HTS.out
  have hb9 : Bts (l.set 31 d) (.slice (some ⟨g4, 0, none⟩) 32 cap4) (u2.setCell ⟨g4, 31, none⟩ (.int .u8 (d : Int))) := ⟨_, _, by rw [hl1], by rw [hl1]; rw [hl] at hc4; exact hc4, hc4', fun _ => ⟨g4, 0, rfl, bytesAt_cur HST.out.1 HST.out.2⟩⟩
  clear HOS HZ2 HTS HST c31 f31
  generalize u2.setCell ⟨g4, 31, none⟩ (.int .u8 (d : Int)) = uu at hO hz hT9 hb9 ⊢
  refine wp_seq_k fun K3 hK3 => ?_
  refine wp_plain_inv 6 (specs [Bts (l.set 31 d), Tup2 (El (y)) (Is (.int .i64 0)), Tup2 (El (y)) (Is (.int .i64 0)), El (y), Is (.int .i64 0), Box uu.heap.size (elc zeroE) 27]) (specs_stb ⟨Bts.stb _, Tup2.stb (El.stb _) (Is.stb _), Tup2.stb (El.stb _) (Is.stb _), El.stb _, Is.stb _, Box.stb _ _ _, trivial⟩) (by kernel_rfl) ?_ ?_
  · refine ⟨fun a w hB hfr hdep => Step.plain rfl (dMove (R := Bts (l.set 31 d)) rfl (use (hfr 4 (by kernel_rfl)) ((Bts.stb _) _ _ _ hB hb9))),
      fun a w hB hfr hdep => Step.plain rfl (Does.call 30 #[(a.eval (.tmp 22))] (by kernel_rfl) (cReadY hy w (hdep 0 22 (by kernel_rfl)) hl1 hd1 hA)),
      fun a w hB hfr hdep => Step.plain rfl (dMove (R := Tup2 (El (y)) (Is (.int .i64 0))) rfl (hdep 1 23 (by kernel_rfl))),
      fun a w hB hfr hdep => Step.plain rfl (dExt0 rfl (hdep 2 21 (by kernel_rfl))),
      fun a w hB hfr hdep => Step.plain rfl (dExt1 rfl (hdep 2 21 (by kernel_rfl))),
      fun a w hB hfr hdep => Step.plain rfl (dAlloc27 hB.size rfl), trivial⟩
  intro u3 hb3
  simp only [List.take, List.drop, FinAll, Act.put, List.setIfInBounds_toArray, List.set_cons_succ, List.set_cons_zero]
  rintro v22_3 h22_3 v23_3 h23_3 v21_3 h21_3 _ ⟨e24_3, q24_3, rfl, x24_3⟩ _ rfl _ ⟨g5_3, rfl, l5_3, m5_3⟩
  refine wpList_store_row rfl 27 (.tmp 5) (.tmp 24) rfl _ (elc e24_3) rfl rfl 27 _ m5_3 info26 rfl (elc_one _) ?_
  have n5_3 := setRow_heap _ _ _ (elc e24_3) _ _ m5_3
  replace hb3 := setRow_below hb3 l5_3 (elc e24_3)
  generalize hw3_1 : u3.setRow g5_3 (elc e24_3) = u3_1 at n5_3 hb3  ⊢
  clear hw3_1 m5_3
  refine wpList_assign rfl rfl rfl ?_
  simp only [Act.put, Act.eval, Array.getD_eq_getD_getElem?, List.getElem?_toArray, List.getElem?_cons_succ, List.getElem?_cons_zero, Option.getD_some, List.setIfInBounds_toArray, List.set_cons_succ, List.set_cons_zero]
  have hO3 := (hO).trans (hb3.mono (hO).size)
  have hz__3 := block_below hb3 (lt_of_heap hz) hz
  have lwn5_3 := Nat.le_trans (hO).size l5_3
  have hT3 := Tab5.below hT9 hb3
  refine hK3 _ _ ?_
  clear hK3 K3
  refine wp_seq_k fun KO6 hKO6 => ?_
  refine wp_seq_k fun K4 hK4 => ?_
  refine wp_plain_inv 2 (specs [Is (.int .i64 0), Is (.bool false)]) (specs_stb ⟨Is.stb _, Is.stb _, trivial⟩) (by kernel_rfl) ?_ ?_
  · refine ⟨fun a w hB hfr hdep => Step.plain rfl (dMove (R := Is (.int .i64 0)) rfl (hfr 6 (by kernel_rfl))),
      fun a w hB hfr hdep => Step.plain rfl (Does.run _ (run_binO rfl (hdep 0 26 (by kernel_rfl)) rfl (by kernel_rfl)) rfl), trivial⟩
  intro u4 hb4
  simp only [List.take, List.drop, FinAll, Act.put, List.setIfInBounds_toArray, List.set_cons_succ, List.set_cons_zero]
  rintro _ rfl _ rfl
  have hO4 := (hO3).trans (hb4.mono (hO3).size)
  have hz__4 := block_below hb4 (lt_of_heap hz__3) hz__3
  have n5_3__4 := block_below hb4 (lt_of_heap n5_3) n5_3
  have hT4 := Tab5.below hT3 hb4
  refine hK4 _ _ ?_
  clear hK4 K4
  refine wp_cond_false rfl ?_
  refine wp_skip ?_
  refine hKO6 _ _ ?_
  clear hKO6 KO6
  refine wp_seq_k fun K5 hK5 => ?_
  refine wp_plain_inv 6 (specs [El (y), Tup2 (El (r)) (Is (.bool true)), Tup2 (El (r)) (Is (.bool true)), El (r), Is (.bool true), Box u4.heap.size (elc zeroE) 27]) (specs_stb ⟨El.stb _, Tup2.stb (El.stb _) (Is.stb _), Tup2.stb (El.stb _) (Is.stb _), El.stb _, Is.stb _, Box.stb _ _ _, trivial⟩) (by kernel_rfl) ?_ ?_
  · refine ⟨fun a w hB hfr hdep => Step.plain rfl (dLoadEl q24_3 x24_3 (block_below hB (lt_of_heap n5_3__4) n5_3__4) rfl (hfr 5 (by kernel_rfl)) (fun _ h => h)),
      fun a w hB hfr hdep => Step.plain rfl (Does.call 31 #[(a.eval (.tmp 30))] (by kernel_rfl) (cXWithT he hr hs w w (Tab5.below hT4 hB) (hdep 0 30 (by kernel_rfl)))),
      fun a w hB hfr hdep => Step.plain rfl (dMove (R := Tup2 (El (r)) (Is (.bool true))) rfl (hdep 1 31 (by kernel_rfl))),
      fun a w hB hfr hdep => Step.plain rfl (dExt0 rfl (hdep 2 29 (by kernel_rfl))),
      fun a w hB hfr hdep => Step.plain rfl (dExt1 rfl (hdep 2 29 (by kernel_rfl))),
      fun a w hB hfr hdep => Step.plain rfl (dAlloc27 hB.size rfl), trivial⟩
  intro u5 hb5
  simp only [List.take, List.drop, FinAll, Act.put, List.setIfInBounds_toArray, List.set_cons_succ, List.set_cons_zero]
  rintro v30_5 h30_5 v31_5 h31_5 v29_5 h29_5 _ ⟨e32_5, q32_5, rfl, x32_5⟩ _ rfl _ ⟨g7_5, rfl, l7_5, m7_5⟩
  refine wpList_store_row rfl 27 (.tmp 7) (.tmp 32) rfl _ (elc e32_5) rfl rfl 27 _ m7_5 info26 rfl (elc_one _) ?_
  have n7_5 := setRow_heap _ _ _ (elc e32_5) _ _ m7_5
  replace hb5 := setRow_below hb5 l7_5 (elc e32_5)
  generalize hw5_1 : u5.setRow g7_5 (elc e32_5) = u5_1 at n7_5 hb5  ⊢
  clear hw5_1 m7_5
  refine wpList_assign rfl rfl rfl ?_
  simp only [Act.put, Act.eval, Array.getD_eq_getD_getElem?, List.getElem?_toArray, List.getElem?_cons_succ, List.getElem?_cons_zero, Option.getD_some, List.setIfInBounds_toArray, List.set_cons_succ, List.set_cons_zero]
  have hO5 := (hO4).trans (hb5.mono (hO4).size)
  have hz__5 := block_below hb5 (lt_of_heap hz__4) hz__4
  have n5_3__5 := block_below hb5 (lt_of_heap n5_3__4) n5_3__4
  have lwn7_5 := Nat.le_trans (hO4).size l7_5
  have hT5 := Tab5.below hT4 hb5
  refine hK5 _ _ ?_
  clear hK5 K5
  refine wp_seq_k fun KO9 hKO9 => ?_
  refine wp_seq_k fun K6 hK6 => ?_
  refine wp_plain_inv 2 (specs [Is (.bool true), Is (.bool false)]) (specs_stb ⟨Is.stb _, Is.stb _, trivial⟩) (by kernel_rfl) ?_ ?_
  · refine ⟨fun a w hB hfr hdep => Step.plain rfl (dMove (R := Is (.bool true)) rfl (hfr 8 (by kernel_rfl))),
      fun a w hB hfr hdep => Step.plain rfl (Does.run _ (run_notO rfl (hdep 0 34 (by kernel_rfl))) rfl), trivial⟩
  intro u6 hb6
  simp only [List.take, List.drop, FinAll, Act.put, List.setIfInBounds_toArray, List.set_cons_succ, List.set_cons_zero]
  rintro _ rfl _ rfl
  have hO6 := (hO5).trans (hb6.mono (hO5).size)
  have hz__6 := block_below hb6 (lt_of_heap hz__5) hz__5
  have n5_3__6 := block_below hb6 (lt_of_heap n5_3__5) n5_3__5
  have n7_5__6 := block_below hb6 (lt_of_heap n7_5) n7_5
  have hT6 := Tab5.below hT5 hb6
  refine hK6 _ _ ?_
  clear hK6 K6
  refine wp_cond_false rfl ?_
  refine wp_skip ?_
  refine hKO9 _ _ ?_
  clear hKO9 KO9
  have ca := (hO6.cell (p := ⟨gx, off + 31, none⟩) hgx).trans hca
  refine wp_seq_k fun KC hKC => ?_
  have HKC : Hid _ := hKC
  clear hKC
  go_wp2
  refine HKC.out _ _ ?_
  clear HKC KC
  refine wp_seq_k fun KO12 hKO12 => ?_
  refine wp_seq_k fun K7 hK7 => ?_
  refine wp_plain_inv 4 (specs [El (r), Is (.bool (!bb)), Is (.bool bb), Is (.bool true)]) (specs_stb ⟨El.stb _, Is.stb _, Is.stb _, Is.stb _, trivial⟩) (by kernel_rfl) ?_ ?_
  · refine ⟨fun a w hB hfr hdep => Step.plain rfl (dLoadEl q32_5 x32_5 (block_below hB (lt_of_heap n7_5__6) n7_5__6) rfl (hfr 7 (by kernel_rfl)) (fun _ h => h)),
      fun a w hB hfr hdep => Step.plain rfl (Does.call 32 #[(a.eval (.tmp 42))] (by kernel_rfl) (cOddB ho1 w w (hdep 0 42 (by kernel_rfl)))),
      fun a w hB hfr hdep => Step.plain rfl (dMove (R := Is (.bool bb)) rfl (hfr 9 (by kernel_rfl))),
      fun a w hB hfr hdep => Step.plain rfl (Does.run _ (run_neqD rfl (hdep 1 43 (by kernel_rfl)) (hdep 2 44 (by kernel_rfl))) rfl), trivial⟩
  intro u7 hb7
  simp only [List.take, List.drop, FinAll, Act.put, List.setIfInBounds_toArray, List.set_cons_succ, List.set_cons_zero]
  rintro v42_7 h42_7 _ rfl _ rfl _ rfl
  have hO7 := (hO6).trans (hb7.mono (hO6).size)
  have hz__7 := block_below hb7 (lt_of_heap hz__6) hz__6
  have n5_3__7 := block_below hb7 (lt_of_heap n5_3__6) n5_3__6
  have n7_5__7 := block_below hb7 (lt_of_heap n7_5__6) n7_5__6
  have hT7 := Tab5.below hT6 hb7
  refine hK7 _ _ ?_
  clear hK7 K7
  refine wp_cond_true rfl ?_
  have q2 : g2_1 ≠ g7_5 := by have := lt_of_heap hz; have := hb3.size; have := hb4.size; have := hb5.size; have := hb6.size; omega
  have q5 : g5_3 ≠ g7_5 := by have := lt_of_heap n5_3; have := hb3.size; have := hb4.size; have := hb5.size; have := hb6.size; omega
  have n5 : 4 < g7_5 := by have := hT9.size; have := hb3.size; have := hb4.size; have := hb5.size; have := hb6.size; omega
  refine wp_plain_inv 2 (specs [El (r), El (0 - (r))]) (specs_stb ⟨El.stb _, El.stb _, trivial⟩) (by kernel_rfl) ?_ ?_
  · refine ⟨fun a w hB hfr hdep => Step.plain rfl (dLoadEl q32_5 x32_5 (block_below hB (lt_of_heap n7_5__7) n7_5__7) rfl (hfr 7 (by kernel_rfl)) (fun _ h => h)),
      fun a w hB hfr hdep => Step.plain rfl (Does.call 33 #[(a.eval (.tmp 46))] (by kernel_rfl) (cNegEl w w (hdep 0 46 (by kernel_rfl)))), trivial⟩
  intro u8 hb8
  simp only [List.take, List.drop, FinAll, Act.put, List.setIfInBounds_toArray, List.set_cons_succ, List.set_cons_zero]
  rintro v46_8 h46_8 _ ⟨e47_8, q47_8, rfl, x47_8⟩
  have on7_5__7 := block_below hb8 (lt_of_heap n7_5__7) n7_5__7
  refine wpList_store_row rfl 27 (.tmp 7) (.tmp 47) rfl _ (elc e47_8) rfl rfl 27 _ on7_5__7 info26 rfl (elc_one _) ?_
  have n7_8 := setRow_heap _ _ _ (elc e47_8) _ _ on7_5__7
  have hO8 := setRow_below (hO7.trans (hb8.mono (hO7).size)) lwn7_5 (elc e47_8)
  have hz__8 := (setRow_other u8 g7_5 g2_1 (elc e47_8) q2).trans (block_below hb8 (lt_of_heap hz__7) hz__7)
  have n5_3__8 := (setRow_other u8 g7_5 g5_3 (elc e47_8) q5).trans (block_below hb8 (lt_of_heap n5_3__7) n5_3__7)
  have hT8 : Tab5 (u8.setRow g7_5 (elc e47_8)) := hT7.setRow hb8 (n5)
  generalize u8.setRow g7_5 (elc e47_8) = u8_s at hO8 hz__8 n5_3__8 n7_8 hT8 ⊢
  refine hKO12 _ _ ?_
  clear hKO12 KO12
  refine wp_seq_k fun KO14 hKO14 => ?_
  refine wp_seq_k fun K9 hK9 => ?_
  refine wp_plain_inv 4 (specs [El (0 - (r)), Is (.bool bb), Is (.bool bb), Is (.bool false)]) (specs_stb ⟨El.stb _, Is.stb _, Is.stb _, Is.stb _, trivial⟩) (by kernel_rfl) ?_ ?_
  · refine ⟨fun a w hB hfr hdep => Step.plain rfl (dLoadEl q47_8 x47_8 (block_below hB (lt_of_heap n7_8) n7_8) rfl (hfr 7 (by kernel_rfl)) (fun _ h => h)),
      fun a w hB hfr hdep => Step.plain rfl (Does.call 32 #[(a.eval (.tmp 48))] (by kernel_rfl) (cOddB ho2 w w (hdep 0 48 (by kernel_rfl)))),
      fun a w hB hfr hdep => Step.plain rfl (dMove (R := Is (.bool bb)) rfl (hfr 9 (by kernel_rfl))),
      fun a w hB hfr hdep => Step.plain rfl (Does.run _ (run_neqS rfl (hdep 1 49 (by kernel_rfl)) (hdep 2 50 (by kernel_rfl))) rfl), trivial⟩
  intro u9 hb9
  simp only [List.take, List.drop, FinAll, Act.put, List.setIfInBounds_toArray, List.set_cons_succ, List.set_cons_zero]
  rintro v48_9 h48_9 _ rfl _ rfl _ rfl
  have hO9 := (hO8).trans (hb9.mono (hO8).size)
  have hz__9 := block_below hb9 (lt_of_heap hz__8) hz__8
  have n5_3__9 := block_below hb9 (lt_of_heap n5_3__8) n5_3__8
  have n7_8__9 := block_below hb9 (lt_of_heap n7_8) n7_8
  have hT9 := Tab5.below hT8 hb9
  refine hK9 _ _ ?_
  clear hK9 K9
  refine wp_cond_false rfl ?_
  refine wp_skip ?_
  refine hKO14 _ _ ?_
  clear hKO14 KO14
  refine wp_seq_k fun K10 hK10 => ?_
  refine wp_plain_inv 3 (specs [El (0 - (r)), El (y), Pt4 (0 - (r)) (y) (1) ((0 - (r)) * (y))]) (specs_stb ⟨El.stb _, El.stb _, Pt4.stb _ _ _ _, trivial⟩) (by kernel_rfl) ?_ ?_
  · refine ⟨fun a w hB hfr hdep => Step.plain rfl (dLoadEl q47_8 x47_8 (block_below hB (lt_of_heap n7_8__9) n7_8__9) rfl (hfr 7 (by kernel_rfl)) (fun _ h => h)),
      fun a w hB hfr hdep => Step.plain rfl (dLoadEl q24_3 x24_3 (block_below hB (lt_of_heap n5_3__9) n5_3__9) rfl (hfr 5 (by kernel_rfl)) (fun _ h => h)),
      fun a w hB hfr hdep => Step.plain rfl (Does.call 34 #[(a.eval (.tmp 53)), (a.eval (.tmp 54))] (by kernel_rfl) (cOfPair w w w (hdep 0 53 (by kernel_rfl)) (hdep 1 54 (by kernel_rfl)))), trivial⟩
  intro u10 hb10
  simp only [List.take, List.drop, FinAll, Act.put, List.setIfInBounds_toArray, List.set_cons_succ, List.set_cons_zero]
  rintro v53_10 h53_10 v54_10 h54_10 _ ⟨e55_10, rfl, x55_10⟩
  have ohz__9 := block_below hb10 (lt_of_heap hz__9) hz__9
  refine wpList_store_row rfl 29 (.tmp 2) (.tmp 55) rfl _ (e55_10) rfl rfl 29 _ ohz__9 (by rw [(Pt4.cells x55_10).1]; exact info29) (by rw [(Pt4.cells x55_10).1]; rfl) (Pt4.cells x55_10).2 ?_
  refine wpList_assign rfl rfl rfl ?_
  simp only [Act.put, Act.eval, List.setIfInBounds_toArray, List.set_cons_succ, List.set_cons_zero]
  have n2_10 := setRow_heap _ _ _ (e55_10) _ _ ohz__9
  have hO10 := setRow_below (hO9.trans (hb10.mono (hO9).size)) lwm2_1 (e55_10)
  have hpp : Rep (0 - (r)) (y) (1) ((0 - (r)) * (y)) p := by have := rep_aff p; rw [hpx, hpy] at this; exact this
  refine hK10 _ _ ?_
  clear hK10 K10
  refine wp_ret ?_
  refine bodyPost_ret (v := .tuple #[.agg (e55_10), .int .i64 0]) ?_ rfl ⟨_, rfl, hO10, ⟨_, _, rfl, ⟨_, rfl, _, _, _, _, x55_10, hpp⟩, rfl⟩⟩
  exact results_cell_tmp Tryd.results11 _ _ _ 29 _ (0, 0) _ _ rfl rfl n2_10 Tryd.underlying29 rfl (by first | exact info26 | exact info29 | exact info35 | (rw [(Pt4.cells (by assumption)).1]; exact info29) | (rw [cellsP_size (by assumption)]; exact info29))
theorem readCE (w : World) (hT : Tab5 w) {l : List Nat} {gx off cap c d : Nat} {bb : Bool} {e : Nat} (he : valD tab3.reverse = e) (hb : Bts l (.slice (some ⟨gx, off, none⟩) 32 cap) w) (hl : l.length = 32) (hcc : Hid (c = l.getD 31 0)) (hc256 : c < 256) (han : bits .andNot .u8 (c : Int) 128 = (d : Int)) (hbb : decide (128 ≤ c) = bb) (hl1 : (l.set 31 d).length = 32) (hd1 : Dig (l.set 31 d))
    (hgx : gx < w.heap.size) (hca : w.cell? ⟨gx, off + 31, none⟩ = some (.int .u8 (c : Int))) {y r : Fe} (hy : fe (valD (l.set 31 d)) = y) (hA : valD (l.set 31 d) < pp) (hr : rootOf e (av y) = r) (hs : r * r = av y) (ho1 : decide (r.val % 2 = 1) = !bb) (ho2 : decide ((0 - r).val % 2 = 1) = !bb) :
    Ret 11 #[.slice (some ⟨gx, off, none⟩) 32 cap] w (Tup2 (Is (.agg (ptc zeroE zeroE zeroE zeroE))) (Is (.int .i64 2))) := by
  unfold Ret
  have hand := and128 c hc256
  rw [hbb] at hand
  clear hbb
  have h32 : ((32 : Int) != 32) = false := rfl
  have hO0 : Below w.heap.size w w := Below.refl _ _
  go_enter Tryd.func11, Tryd.ntmps11
  refine wp_seq_k fun K1 hK1 => ?_
  refine wp_plain_inv 2 (specs [Box w.heap.size (ptc zeroE zeroE zeroE zeroE) 29, Is (.int .i64 0)]) (specs_stb ⟨Box.stb _ _ _, Is.stb _, trivial⟩) (by kernel_rfl) ?_ ?_
  · refine ⟨fun a w hB hfr hdep => Step.plain rfl (dAlloc29 hB.size rfl),
      fun a w hB hfr hdep => Step.plain rfl (dAssign (R := Is (.int .i64 0)) rfl rfl), trivial⟩
  intro u1 hb1
  simp only [List.take, List.drop, FinAll, Act.put, List.setIfInBounds_toArray, List.set_cons_succ, List.set_cons_zero]
  rintro _ ⟨g2_1, rfl, l2_1, m2_1⟩ _ rfl
  have hO1 := (hO0).trans (hb1.mono (hO0).size)
  have lwm2_1 := Nat.le_trans (hO0).size l2_1
  have hT1 := Tab5.below hT hb1
  refine hK1 _ _ ?_
  clear hK1 K1
  refine wp_seq_k fun KA hKA => ?_
  have HKA : Hid _ := hKA
  clear hKA
  go_wp2
  refine HKA.out _ _ ?_
  clear HKA KA
  refine wp_seq_k fun K2 hK2 => ?_
  refine wp_plain_inv 3 (specs [Is (.slice (some ⟨gx, off, none⟩) 32 cap), OwnC u1.heap.size l, OwnC u1.heap.size l]) (specs_stb ⟨Is.stb _, OwnC.stb _ _, OwnC.stb _ _, trivial⟩) (by kernel_rfl) ?_ ?_
  · refine ⟨fun a w hB hfr hdep => Step.plain rfl (dMove (R := Is (.slice (some ⟨gx, off, none⟩) 32 cap)) rfl (hfr 0 (by kernel_rfl))),
      fun a w hB hfr hdep => Step.plain rfl (Does.call 29 #[(a.eval (.tmp 14))] (by kernel_rfl) (ownCLo hB.size (cloneIs w (hdep 0 14 (by kernel_rfl)) (Bts.stb _ _ _ _ hB (Bts.stb _ _ _ _ hO1 hb)) hl))),
      fun a w hB hfr hdep => Step.plain rfl (dAssign (R := OwnC u1.heap.size l) rfl (hdep 1 15 (by kernel_rfl))), trivial⟩
  intro u2 hb2
  simp only [List.take, List.drop, FinAll, Act.put, List.setIfInBounds_toArray, List.set_cons_succ, List.set_cons_zero]
  rintro _ rfl v15_2 h15_2 v4_2 h4_2
  have hO2 := (hO1).trans (hb2.mono (hO1).size)
  have m2_1__2 := block_below hb2 (lt_of_heap m2_1) m2_1
  have hT2 := Tab5.below hT1 hb2
  refine hK2 _ _ ?_
  clear hK2 K2
  obtain ⟨g4, cap4, cur4, hv4, hl4, hrow4, hc4, hc4', hcur⟩ := h4_2
  rw [hl] at hv4 hcur
  subst hv4
  have c31 := cell_of_row _ g4 31 _ _ _ hrow4
  rw [hcur 31 (by omega), ← hcc.out] at c31
  have f31 := frozen_of_row _ g4 31 _ _ hrow4
  have hst := cur_set hrow4 (by rw [hl]; exact hcur) 31 d (by omega)
  have hOs := (hO2).setCell (p := ⟨g4, 31, none⟩) (by show _ ≤ g4; have := hO1.size; omega) (.int .u8 (d : Int))
  have nz : g2_1 ≠ g4 := by have := lt_of_heap m2_1; omega
  have hz2 := (heap_setCell_other u2 ⟨g4, 31, none⟩ g2_1 (.int .u8 (d : Int)) nz).trans m2_1__2
  have hTs : Tab5 (u2.setCell ⟨g4, 31, none⟩ (.int .u8 (d : Int))) := hT2.setCell (by have := hT.size; have := hO1.size; show 4 < g4; omega)
  have HOS : Hid _ := hOs
  have HZ2 : Hid _ := hz2
  have HTS : Hid _ := hTs
  have HST : Hid _ := hst
  clear hOs hz2 hTs hst
  refine wp_seq_k fun KB hKB => ?_
  have HKB : Hid _ := hKB
  clear hKB
  go_wp2
  refine HKB.out _ _ ?_
  clear HKB KB
  have hO := HOS.out
  have hz := HZ2.out
  have hT9 := HTS.out
  have hb9 : Bts (l.set 31 d) (.slice (some ⟨g4, 0, none⟩) 32 cap4) (u2.setCell ⟨g4, 31, none⟩ (.int .u8 (d : Int))) := ⟨_, _, by rw [hl1], by rw [hl1]; rw [hl] at hc4; exact hc4, hc4', fun _ => ⟨g4, 0, rfl, bytesAt_cur HST.out.1 HST.out.2⟩⟩
  clear HOS HZ2 HTS HST c31 f31
  generalize u2.setCell ⟨g4, 31, none⟩ (.int .u8 (d : Int)) = uu at hO hz hT9 hb9 ⊢
  refine wp_seq_k fun K3 hK3 => ?_
  refine wp_plain_inv 6 (specs [Bts (l.set 31 d), Tup2 (El (y)) (Is (.int .i64 0)), Tup2 (El (y)) (Is (.int .i64 0)), El (y), Is (.int .i64 0), Box uu.heap.size (elc zeroE) 27]) (specs_stb ⟨Bts.stb _, Tup2.stb (El.stb _) (Is.stb _), Tup2.stb (El.stb _) (Is.stb _), El.stb _, Is.stb _, Box.stb _ _ _, trivial⟩) (by kernel_rfl) ?_ ?_
  · refine ⟨fun a w hB hfr hdep => Step.plain rfl (dMove (R := Bts (l.set 31 d)) rfl (use (hfr 4 (by kernel_rfl)) ((Bts.stb _) _ _ _ hB hb9))),
      fun a w hB hfr hdep => Step.plain rfl (Does.call 30 #[(a.eval (.tmp 22))] (by kernel_rfl) (cReadY hy w (hdep 0 22 (by kernel_rfl)) hl1 hd1 hA)),
      fun a w hB hfr hdep => Step.plain rfl (dMove (R := Tup2 (El (y)) (Is (.int .i64 0))) rfl (hdep 1 23 (by kernel_rfl))),
      fun a w hB hfr hdep => Step.plain rfl (dExt0 rfl (hdep 2 21 (by kernel_rfl))),
      fun a w hB hfr hdep => Step.plain rfl (dExt1 rfl (hdep 2 21 (by kernel_rfl))),
      fun a w hB hfr hdep => Step.plain rfl (dAlloc27 hB.size rfl), trivial⟩
  intro u3 hb3
  simp only [List.take, List.drop, FinAll, Act.put, List.setIfInBounds_toArray, List.set_cons_succ, List.set_cons_zero]
  rintro v22_3 h22_3 v23_3 h23_3 v21_3 h21_3 _ ⟨e24_3, q24_3, rfl, x24_3⟩ _ rfl _ ⟨g5_3, rfl, l5_3, m5_3⟩
  refine wpList_store_row rfl 27 (.tmp 5) (.tmp 24) rfl _ (elc e24_3) rfl rfl 27 _ m5_3 info26 rfl (elc_one _) ?_
  have n5_3 := setRow_heap _ _ _ (elc e24_3) _ _ m5_3
  replace hb3 := setRow_below hb3 l5_3 (elc e24_3)
  generalize hw3_1 : u3.setRow g5_3 (elc e24_3) = u3_1 at n5_3 hb3  ⊢
  clear hw3_1 m5_3
  refine wpList_assign rfl rfl rfl ?_
  simp only [Act.put, Act.eval, Array.getD_eq_getD_getElem?, List.getElem?_toArray, List.getElem?_cons_succ, List.getElem?_cons_zero, Option.getD_some, List.setIfInBounds_toArray, List.set_cons_succ, List.set_cons_zero]
  have hO3 := (hO).trans (hb3.mono (hO).size)
  have hz__3 := block_below hb3 (lt_of_heap hz) hz
  have lwn5_3 := Nat.le_trans (hO).size l5_3
  have hT3 := Tab5.below hT9 hb3
  refine hK3 _ _ ?_
  clear hK3 K3
  refine wp_seq_k fun KO6 hKO6 => ?_
  refine wp_seq_k fun K4 hK4 => ?_
  refine wp_plain_inv 2 (specs [Is (.int .i64 0), Is (.bool false)]) (specs_stb ⟨Is.stb _, Is.stb _, trivial⟩) (by kernel_rfl) ?_ ?_
  · refine ⟨fun a w hB hfr hdep => Step.plain rfl (dMove (R := Is (.int .i64 0)) rfl (hfr 6 (by kernel_rfl))),
      fun a w hB hfr hdep => Step.plain rfl (Does.run _ (run_binO rfl (hdep 0 26 (by kernel_rfl)) rfl (by kernel_rfl)) rfl), trivial⟩
  intro u4 hb4
  simp only [List.take, List.drop, FinAll, Act.put, List.setIfInBounds_toArray, List.set_cons_succ, List.set_cons_zero]
  rintro _ rfl _ rfl
  have hO4 := (hO3).trans (hb4.mono (hO3).size)
  have hz__4 := block_below hb4 (lt_of_heap hz__3) hz__3
  have n5_3__4 := block_below hb4 (lt_of_heap n5_3) n5_3
  have hT4 := Tab5.below hT3 hb4
  refine hK4 _ _ ?_
  clear hK4 K4
  refine wp_cond_false rfl ?_
  refine wp_skip ?_
  refine hKO6 _ _ ?_
  clear hKO6 KO6
  refine wp_seq_k fun K5 hK5 => ?_
  refine wp_plain_inv 6 (specs [El (y), Tup2 (El (r)) (Is (.bool true)), Tup2 (El (r)) (Is (.bool true)), El (r), Is (.bool true), Box u4.heap.size (elc zeroE) 27]) (specs_stb ⟨El.stb _, Tup2.stb (El.stb _) (Is.stb _), Tup2.stb (El.stb _) (Is.stb _), El.stb _, Is.stb _, Box.stb _ _ _, trivial⟩) (by kernel_rfl) ?_ ?_
  · refine ⟨fun a w hB hfr hdep => Step.plain rfl (dLoadEl q24_3 x24_3 (block_below hB (lt_of_heap n5_3__4) n5_3__4) rfl (hfr 5 (by kernel_rfl)) (fun _ h => h)),
      fun a w hB hfr hdep => Step.plain rfl (Does.call 31 #[(a.eval (.tmp 30))] (by kernel_rfl) (cXWithT he hr hs w w (Tab5.below hT4 hB) (hdep 0 30 (by kernel_rfl)))),
      fun a w hB hfr hdep => Step.plain rfl (dMove (R := Tup2 (El (r)) (Is (.bool true))) rfl (hdep 1 31 (by kernel_rfl))),
      fun a w hB hfr hdep => Step.plain rfl (dExt0 rfl (hdep 2 29 (by kernel_rfl))),
      fun a w hB hfr hdep => Step.plain rfl (dExt1 rfl (hdep 2 29 (by kernel_rfl))),
      fun a w hB hfr hdep => Step.plain rfl (dAlloc27 hB.size rfl), trivial⟩
  intro u5 hb5
  simp only [List.take, List.drop, FinAll, Act.put, List.setIfInBounds_toArray, List.set_cons_succ, List.set_cons_zero]
  rintro v30_5 h30_5 v31_5 h31_5 v29_5 h29_5 _ ⟨e32_5, q32_5, rfl, x32_5⟩ _ rfl _ ⟨g7_5, rfl, l7_5, m7_5⟩
  refine wpList_store_row rfl 27 (.tmp 7) (.tmp 32) rfl _ (elc e32_5) rfl rfl 27 _ m7_5 info26 rfl (elc_one _) ?_
  have n7_5 := setRow_heap _ _ _ (elc e32_5) _ _ m7_5
  replace hb5 := setRow_below hb5 l7_5 (elc e32_5)
  generalize hw5_1 : u5.setRow g7_5 (elc e32_5) = u5_1 at n7_5 hb5  ⊢
  clear hw5_1 m7_5
  refine wpList_assign rfl rfl rfl ?_
  simp only [Act.put, Act.eval, Array.getD_eq_getD_getElem?, List.getElem?_toArray, List.getElem?_cons_succ, List.getElem?_cons_zero, Option.getD_some, List.setIfInBounds_toArray, List.set_cons_succ, List.set_cons_zero]
  have hO5 := (hO4).trans (hb5.mono (hO4).size)
  have hz__5 := block_below hb5 (lt_of_heap hz__4) hz__4
  have n5_3__5 := block_below hb5 (lt_of_heap n5_3__4) n5_3__4
  have lwn7_5 := Nat.le_trans (hO4).size l7_5
  have hT5 := Tab5.below hT4 hb5
  refine hK5 _ _ ?_
  clear hK5 K5
  refine wp_seq_k fun KO9 hKO9 => ?_
  refine wp_seq_k fun K6 hK6 => ?_
  refine wp_plain_inv 2 (specs [Is (.bool true), Is (.bool false)]) (specs_stb ⟨Is.stb _, Is.stb _, trivial⟩) (by kernel_rfl) ?_ ?_
  · refine ⟨fun a w hB hfr hdep => Step.plain rfl (dMove (R := Is (.bool true)) rfl (hfr 8 (by kernel_rfl))),
      fun a w hB hfr hdep => Step.plain rfl (Does.run _ (run_notO rfl (hdep 0 34 (by kernel_rfl))) rfl), trivial⟩
  intro u6 hb6
  simp only [List.take, List.drop, FinAll, Act.put, List.setIfInBounds_toArray, List.set_cons_succ, List.set_cons_zero]
  rintro _ rfl _ rfl
  have hO6 := (hO5).trans (hb6.mono (hO5).size)
  have hz__6 := block_below hb6 (lt_of_heap hz__5) hz__5
  have n5_3__6 := block_below hb6 (lt_of_heap n5_3__5) n5_3__5
  have n7_5__6 := block_below hb6 (lt_of_heap n7_5) n7_5
  have hT6 := Tab5.below hT5 hb6
  refine hK6 _ _ ?_
  clear hK6 K6
  refine wp_cond_false rfl ?_
  refine wp_skip ?_
  refine hKO9 _ _ ?_
  clear hKO9 KO9
  have ca := (hO6.cell (p := ⟨gx, off + 31, none⟩) hgx).trans hca
  refine wp_seq_k fun KC hKC => ?_
  have HKC : Hid _ := hKC
  clear hKC
  go_wp2
  refine HKC.out _ _ ?_
  clear HKC KC
  refine wp_seq_k fun KO12 hKO12 => ?_
  refine wp_seq_k fun K7 hK7 => ?_
  refine wp_plain_inv 4 (specs [El (r), Is (.bool (!bb)), Is (.bool bb), Is (.bool true)]) (specs_stb ⟨El.stb _, Is.stb _, Is.stb _, Is.stb _, trivial⟩) (by kernel_rfl) ?_ ?_
  · refine ⟨fun a w hB hfr hdep => Step.plain rfl (dLoadEl q32_5 x32_5 (block_below hB (lt_of_heap n7_5__6) n7_5__6) rfl (hfr 7 (by kernel_rfl)) (fun _ h => h)),
      fun a w hB hfr hdep => Step.plain rfl (Does.call 32 #[(a.eval (.tmp 42))] (by kernel_rfl) (cOddB ho1 w w (hdep 0 42 (by kernel_rfl)))),
      fun a w hB hfr hdep => Step.plain rfl (dMove (R := Is (.bool bb)) rfl (hfr 9 (by kernel_rfl))),
      fun a w hB hfr hdep => Step.plain rfl (Does.run _ (run_neqD rfl (hdep 1 43 (by kernel_rfl)) (hdep 2 44 (by kernel_rfl))) rfl), trivial⟩
  intro u7 hb7
  simp only [List.take, List.drop, FinAll, Act.put, List.setIfInBounds_toArray, List.set_cons_succ, List.set_cons_zero]
  rintro v42_7 h42_7 _ rfl _ rfl _ rfl
  have hO7 := (hO6).trans (hb7.mono (hO6).size)
  have hz__7 := block_below hb7 (lt_of_heap hz__6) hz__6
  have n5_3__7 := block_below hb7 (lt_of_heap n5_3__6) n5_3__6
  have n7_5__7 := block_below hb7 (lt_of_heap n7_5__6) n7_5__6
  have hT7 := Tab5.below hT6 hb7
  refine hK7 _ _ ?_
  clear hK7 K7
  refine wp_cond_true rfl ?_
  have q2 : g2_1 ≠ g7_5 := by have := lt_of_heap hz; have := hb3.size; have := hb4.size; have := hb5.size; have := hb6.size; omega
  have q5 : g5_3 ≠ g7_5 := by have := lt_of_heap n5_3; have := hb3.size; have := hb4.size; have := hb5.size; have := hb6.size; omega
  have n5 : 4 < g7_5 := by have := hT9.size; have := hb3.size; have := hb4.size; have := hb5.size; have := hb6.size; omega
  refine wp_plain_inv 2 (specs [El (r), El (0 - (r))]) (specs_stb ⟨El.stb _, El.stb _, trivial⟩) (by kernel_rfl) ?_ ?_
  · refine ⟨fun a w hB hfr hdep => Step.plain rfl (dLoadEl q32_5 x32_5 (block_below hB (lt_of_heap n7_5__7) n7_5__7) rfl (hfr 7 (by kernel_rfl)) (fun _ h => h)),
      fun a w hB hfr hdep => Step.plain rfl (Does.call 33 #[(a.eval (.tmp 46))] (by kernel_rfl) (cNegEl w w (hdep 0 46 (by kernel_rfl)))), trivial⟩
  intro u8 hb8
  simp only [List.take, List.drop, FinAll, Act.put, List.setIfInBounds_toArray, List.set_cons_succ, List.set_cons_zero]
  rintro v46_8 h46_8 _ ⟨e47_8, q47_8, rfl, x47_8⟩
  have on7_5__7 := block_below hb8 (lt_of_heap n7_5__7) n7_5__7
  refine wpList_store_row rfl 27 (.tmp 7) (.tmp 47) rfl _ (elc e47_8) rfl rfl 27 _ on7_5__7 info26 rfl (elc_one _) ?_
  have n7_8 := setRow_heap _ _ _ (elc e47_8) _ _ on7_5__7
  have hO8 := setRow_below (hO7.trans (hb8.mono (hO7).size)) lwn7_5 (elc e47_8)
  have hz__8 := (setRow_other u8 g7_5 g2_1 (elc e47_8) q2).trans (block_below hb8 (lt_of_heap hz__7) hz__7)
  have n5_3__8 := (setRow_other u8 g7_5 g5_3 (elc e47_8) q5).trans (block_below hb8 (lt_of_heap n5_3__7) n5_3__7)
  have hT8 : Tab5 (u8.setRow g7_5 (elc e47_8)) := hT7.setRow hb8 (n5)
  generalize u8.setRow g7_5 (elc e47_8) = u8_s at hO8 hz__8 n5_3__8 n7_8 hT8 ⊢
  refine hKO12 _ _ ?_
  clear hKO12 KO12
  refine wp_seq_k fun KO14 hKO14 => ?_
  refine wp_seq_k fun K9 hK9 => ?_
  refine wp_plain_inv 4 (specs [El (0 - (r)), Is (.bool (!bb)), Is (.bool bb), Is (.bool true)]) (specs_stb ⟨El.stb _, Is.stb _, Is.stb _, Is.stb _, trivial⟩) (by kernel_rfl) ?_ ?_
  · refine ⟨fun a w hB hfr hdep => Step.plain rfl (dLoadEl q47_8 x47_8 (block_below hB (lt_of_heap n7_8) n7_8) rfl (hfr 7 (by kernel_rfl)) (fun _ h => h)),
      fun a w hB hfr hdep => Step.plain rfl (Does.call 32 #[(a.eval (.tmp 48))] (by kernel_rfl) (cOddB ho2 w w (hdep 0 48 (by kernel_rfl)))),
      fun a w hB hfr hdep => Step.plain rfl (dMove (R := Is (.bool bb)) rfl (hfr 9 (by kernel_rfl))),
      fun a w hB hfr hdep => Step.plain rfl (Does.run _ (run_neqD rfl (hdep 1 49 (by kernel_rfl)) (hdep 2 50 (by kernel_rfl))) rfl), trivial⟩
  intro u9 hb9
  simp only [List.take, List.drop, FinAll, Act.put, List.setIfInBounds_toArray, List.set_cons_succ, List.set_cons_zero]
  rintro v48_9 h48_9 _ rfl _ rfl _ rfl
  have hO9 := (hO8).trans (hb9.mono (hO8).size)
  have hz__9 := block_below hb9 (lt_of_heap hz__8) hz__8
  have n5_3__9 := block_below hb9 (lt_of_heap n5_3__8) n5_3__8
  have n7_8__9 := block_below hb9 (lt_of_heap n7_8) n7_8
  have hT9 := Tab5.below hT8 hb9
  refine hK9 _ _ ?_
  clear hK9 K9
  refine wp_cond_true rfl ?_
  refine wp_seq_k fun K10 hK10 => ?_
  refine wp_plain_inv 1 (specs [Is (.agg (ptc zeroE zeroE zeroE zeroE))]) (specs_stb ⟨Is.stb _, trivial⟩) (by kernel_rfl) ?_ ?_
  · refine ⟨fun a w hB hfr hdep => Step.plain rfl (Does.run _ (bu29z rfl) rfl), trivial⟩
  intro u10 hb10
  simp only [List.take, List.drop, FinAll, Act.put, List.setIfInBounds_toArray, List.set_cons_succ, List.set_cons_zero]
  rintro _ rfl
  have ohz__9 := block_below hb10 (lt_of_heap hz__9) hz__9
  refine wpList_store_row rfl 29 (.tmp 2) (.tmp 52) rfl _ (ptc zeroE zeroE zeroE zeroE) rfl rfl 29 _ ohz__9 info29 rfl (ptc_one _ _ _ _) ?_
  refine wpList_assign rfl rfl rfl ?_
  simp only [Act.put, Act.eval, List.setIfInBounds_toArray, List.set_cons_succ, List.set_cons_zero]
  have n2_10 := setRow_heap _ _ _ (ptc zeroE zeroE zeroE zeroE) _ _ ohz__9
  have hO10 := setRow_below (hO9.trans (hb10.mono (hO9).size)) lwm2_1 (ptc zeroE zeroE zeroE zeroE)
  refine hK10 _ _ ?_
  clear hK10 K10
  refine wp_ret ?_
  simp only [Exit.then]
  refine bodyPost_ret (v := .tuple #[.agg (ptc zeroE zeroE zeroE zeroE), .int .i64 2]) ?_ rfl ⟨_, rfl, hO10, ⟨_, _, rfl, rfl, rfl⟩⟩
  exact results_cell_tmp Tryd.results11 _ _ _ 29 _ (0, 0) _ _ rfl rfl n2_10 Tryd.underlying29 rfl (by first | exact info26 | exact info29 | exact info35 | (rw [(Pt4.cells (by assumption)).1]; exact info29) | (rw [cellsP_size (by assumption)]; exact info29))
end Go.Proofs.YtpfcboakafbnlaaDoor
