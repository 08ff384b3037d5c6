/-
  Read. Read, the whole. slices.Grow of nil, and append onto a row of one's own of bytes wherever they lie. slices.Concat of lists of bytes. The walk of slices.Concat. Plain mathematics of signed digits of 28 bits, and of numbers modulo L: nothing of the program stands here. Rows of signed words in memory; the walk of settle. The walk of takeExcess. The walk of reduce.
-/
import Derived.Test.YtabgihjffjlfiaaGreatDoorC4
import Derived.Lib.AppendZerosOnto
import Derived.Test.YtabgihjffjlfiaaGreatDoorC0
import Derived.Test.YtabgihjffjlfiaaGreatDoorC1
import Derived.Laws.Bits128
set_option linter.unusedVariables false
namespace Go.Proofs.YtabgihjffjlfiaaGreatDoor
open Go.RowKit Go.Sort Go.BigFrame
set_option maxRecDepth 100000
set_option maxHeartbeats 2000000
section
variable {ρ : Operand → Value} {o : Oper} {x y z t : Operand} {w : World}
theorem bu29z (ho : o.op = .build 60 #[]) : (execOp ρ o).run Tryz.prog w = .ok (.value (.agg (ptc zeroE zeroE zeroE zeroE))) w := by
  simp only [execOp, ho]
  kernel_rfl
theorem run_binO {op : BinOp} {t t2 : TypeId} {a b v : Value} (ho : o.op = .binOp op t x y t2) (hx : ρ x = a) (hy : ρ y = b) (hr : Sem.run Tryz.prog (do eqGuard op t x y a b; binOp op t a b) w = .ok v w) : (execOp ρ o).run Tryz.prog w = .ok (.value v) w := by
  simp only [execOp, ho, hx, hy]
  rw [Sem.run_bind, hr]
  rfl
theorem run_neqS {s1 s2 : Nat} {b : Bool} (ho : o.op = .binOp .neq 4 (.tmp s1) (.tmp s2) 4) (hx : ρ (.tmp s1) = .bool b) (hy : ρ (.tmp s2) = .bool b) : (execOp ρ o).run Tryz.prog w = .ok (.value (.bool false)) w :=
  run_binO ho hx hy (by cases b <;> kernel_rfl)
theorem run_neqD {s1 s2 : Nat} {b : Bool} (ho : o.op = .binOp .neq 4 (.tmp s1) (.tmp s2) 4) (hx : ρ (.tmp s1) = .bool (!b)) (hy : ρ (.tmp s2) = .bool b) : (execOp ρ o).run Tryz.prog w = .ok (.value (.bool true)) w :=
  run_binO ho hx hy (by cases b <;> kernel_rfl)
end
theorem and128 (x : Nat) (h : x < 256) : (bits .and .u8 (x : Int) 128 != 0) = decide (128 ≤ x) := by
  have : ∀ y < 256, (bits .and .u8 ((y : Nat) : Int) 128 != 0) = decide (128 ≤ y) := by decide
  exact this x h
theorem andNot128 (x : Nat) (h : x < 256) : bits .andNot .u8 (x : Int) 128 = ((x % 128 : Nat) : Int) := by
  have : ∀ y < 256, bits .andNot .u8 ((y : Nat) : Int) 128 = ((y % 128 : Nat) : Int) := by decide
  exact this x h
/-- 32 bytes: their number's highest bit. -/
theorem high_bit {l : List Nat} (hl : l.length = 32) (hd : Dig l) : valD l / t255 = l.getD 31 0 / 128 ∧ valD (l.set 31 (l.getD 31 0 % 128)) = valD l % t255 ∧ valD l < 2 * t255 := by
  have h1 := valD_take_succ l 31
  rw [List.take_of_length_le (by omega)] at h1
  have h2 := valD_take_lt hd 31
  have h3 := hd 31
  have h4 := valD_set l 31 (l.getD 31 0 % 128) (by omega)
  have h5 := p31
  obtain ⟨q, hq⟩ : ∃ q, q = 256 ^ 31 := ⟨_, rfl⟩
  rw [← hq] at h1 h2 h4 h5
  obtain ⟨c, hc⟩ : ∃ c, c = l.getD 31 0 := ⟨_, rfl⟩
  rw [← hc] at h1 h3 h4 ⊢
  obtain ⟨L, hL⟩ : ∃ L, L = valD (l.take 31) := ⟨_, rfl⟩
  rw [← hL] at h1 h2
  have e1 : c = 128 * (c / 128) + c % 128 := by omega
  have e2 : q * c = t255 * (c / 128) + q * (c % 128) := by
    rw [← h5, Nat.mul_assoc, ← Nat.mul_add, ← e1]
  have e3 : q * (c % 128) ≤ q * 127 := Nat.mul_le_mul_left _ (by omega)
  have e4 : L + q * (c % 128) < t255 := by omega
  have e5 : valD l = (L + q * (c % 128)) + t255 * (c / 128) := by omega
  have ht : 0 < t255 := by decide
  refine ⟨?_, ?_, ?_⟩
  · rw [e5, Nat.add_mul_div_left _ _ ht, Nat.div_eq_of_lt e4, Nat.zero_add]
  · rw [e5, Nat.add_mul_mod_self_left, Nat.mod_eq_of_lt e4]; omega
  · rw [e5]
    have : t255 * (c / 128) ≤ t255 * 1 := Nat.mul_le_mul_left _ (by omega)
    omega
theorem root_sq {a : Fe} {e : Nat} (he : 8 * e = pp + 3) (h : IsSq a) : rootOf e a * rootOf e a = a := by
  unfold rootOf
  rcases root_or h he with h1 | h1
  · rw [if_pos h1]; exact h1
  · by_cases h2 : pw a e * pw a e = a
    · rw [if_pos h2]; exact h2
    · rw [if_neg h2]; exact h1
theorem zsub (z : Fe) : 0 - z = -z := by grobner
/-- Which of the two roots a point's x is. -/
theorem pt_root {p : Pt} {e n : Nat} (he : 8 * e = pp + 3) (hn : p.enc = n) : n % t255 < pp ∧ rootOf e (av (fe (n % t255))) * rootOf e (av (fe (n % t255))) = av (fe (n % t255)) ∧ p.y = fe (n % t255) ∧
    (((rootOf e (av (fe (n % t255)))).val % 2 = n / t255 ∧ p.x = rootOf e (av (fe (n % t255)))) ∨ ((rootOf e (av (fe (n % t255)))).val % 2 ≠ n / t255 ∧ p.x = 0 - rootOf e (av (fe (n % t255))) ∧ (0 - rootOf e (av (fe (n % t255)))).val % 2 = n / t255)) := by
  have hy : n % t255 = p.y.val := by rw [← hn, p.enc_y]
  have ho : n / t255 = p.x.val % 2 := by rw [← hn, p.enc_odd]
  rw [hy, ho, fe_of]
  have hs := p.sq
  have hr := root_sq (a := av p.y) he ⟨p.x, hs.symm⟩
  refine ⟨p.y.isLt, hr, rfl, ?_⟩
  obtain ⟨r, hre⟩ : ∃ r, r = rootOf e (av p.y) := ⟨_, rfl⟩
  rw [← hre] at hr ⊢
  rw [← hr] at hs
  by_cases hp : r.val % 2 = p.x.val % 2
  · left
    refine ⟨hp, ?_⟩
    rcases sq_eq hs with h | h
    · exact h
    · by_cases h0 : r = 0
      · rw [h, h0]; grobner
      · have := neg_par h0
        rw [← h] at this
        omega
  · right
    have hx : p.x = -r := by
      rcases sq_eq hs with h | h
      · rw [h] at hp; exact absurd rfl hp
      · exact h
    rw [zsub, ← hx]
    exact ⟨hp, rfl, rfl⟩
/-- What it is where there is no point. -/
theorem no_root {e n : Nat} (he : 8 * e = pp + 3) (hn2 : n < 2 * t255) (hno : ¬ ∃ p : Pt, p.enc = n) (h1 : n % t255 < pp) (h2 : rootOf e (av (fe (n % t255))) * rootOf e (av (fe (n % t255))) = av (fe (n % t255))) :
    (rootOf e (av (fe (n % t255)))).val % 2 ≠ n / t255 ∧ (0 - rootOf e (av (fe (n % t255)))).val % 2 ≠ n / t255 := by
  obtain ⟨r, hre⟩ : ∃ r, r = rootOf e (av (fe (n % t255))) := ⟨_, rfl⟩
  rw [← hre] at h2 ⊢
  have ht : 0 < t255 := by decide
  have key : ∀ x : Fe, x * x = av (fe (n % t255)) → x.val % 2 ≠ n / t255 := fun x hx hp => by
    refine hno ⟨⟨x, fe (n % t255), (on_iff _ _).2 hx⟩, ?_⟩
    unfold Pt.enc
    show (fe (n % t255)).val + t255 * (x.val % 2) = n
    rw [hp, fe_val, Nat.mod_eq_of_lt h1, Nat.mod_add_div]
  exact ⟨key r h2, key (0 - r) (by rw [← h2]; grobner)⟩
theorem cOddB {x : Fe} {b : Bool} (hb : decide (x.val % 2 = 1) = b) {v1 : Value} (w w0 : World) (h1 : El x v1 w0) : Ret 68 #[v1] w (Is (.bool b)) := by
  rw [← hb]; exact cOdd w w0 h1
theorem cXWithT {y r : Fe} {v : Value} {e : Nat} (he : valD tab3.reverse = e) (hr : rootOf e (av y) = r) (hs : r * r = av y) (w w0 : World) (hT : Tab5 w) (h : El y v w0) : Ret 67 #[v] w (Tup2 (El r) (Is (.bool true))) := by
  have := cXWith he w w0 hT h
  rw [hr, decide_eq_true hs] at this
  exact this
theorem cXWithF {y r : Fe} {v : Value} {e : Nat} (he : valD tab3.reverse = e) (hr : rootOf e (av y) = r) (hs : ¬ r * r = av y) (w w0 : World) (hT : Tab5 w) (h : El y v w0) : Ret 67 #[v] w (Tup2 (El r) (Is (.bool false))) := by
  have := cXWith he w w0 hT h
  rw [hr, decide_eq_false hs] at this
  exact this
theorem Tab5.setCell {w : World} (h : Tab5 w) {g k : Nat} {v : Value} (hg : 6 < g) : Tab5 (w.setCell ⟨g, k, none⟩ v) := by
  have o : ∀ (j : Nat) (l : List Nat), j < 6 + 1 → BytesAt w j 0 l → BytesAt (w.setCell ⟨g, k, none⟩ v) j 0 l := fun j l hj hl i hi => by
    rw [World.cell?_setCell_far w ⟨g, k, none⟩ ⟨j, 0 + i, none⟩ v (by show g ≠ j; omega)]; exact hl i hi
  exact ⟨⟨o 0 _ (by omega) h.t0, o 1 _ (by omega) h.t1, o 2 _ (by omega) h.t2⟩, o 5 _ (by omega) h.t3, o 6 _ (by omega) h.t4⟩
theorem ownCLo {f : FuncId} {args : Array Value} {w : World} {l : List Nat} {lo : Nat} (hlo : lo ≤ w.heap.size) (h : Ret f args w (OwnC w.heap.size l)) : Ret f args w (OwnC lo l) :=
  h.mono fun e w' ⟨v, h1, h2, h3⟩ => ⟨v, h1, h2, h3.lo hlo⟩
theorem cloneIs {v x : Value} {l : List Nat} (w : World) (hv : v = x) (h : Bts l x w) (hl : l.length = 32) : Ret 65 #[v] w (OwnC w.heap.size l) := by
  subst hv; exact cClone w h (by omega) (by omega)
theorem cReadY {v : Value} {l : List Nat} {y : Fe} (hy : fe (valD l) = y) (w : World) (h : Bts l v w) (hl : l.length = 32) (hd : Dig l) (hlt : valD l < pp) : Ret 66 #[v] w (Tup2 (El y) (Is (.int .i64 0))) := by
  rw [← hy]; exact cRead w h hl hd hlt
theorem readCA (w : World) (hT : Tab5 w) {l : List Nat} {gx off cap c d : Nat} {bb : Bool} {e : Nat} (he : valD tab3.reverse = e) (hb : Bts l (.slice (some ⟨gx, off, none⟩) 32 cap) w) (hl : l.length = 32) (hcc : Hid (c = l.getD 31 0)) (hc256 : c < 256) (han : bits .andNot .u8 (c : Int) 128 = (d : Int)) (hbb : decide (128 ≤ c) = bb) (hl1 : (l.set 31 d).length = 32) (hd1 : Dig (l.set 31 d))
    (hgx : gx < w.heap.size) (hca : w.cell? ⟨gx, off + 31, none⟩ = some (.int .u8 (c : Int))) (hA : ¬ valD (l.set 31 d) < pp) :
    Ret 30 #[.slice (some ⟨gx, off, none⟩) 32 cap] w (Tup2 (Is (.agg (ptc zeroE zeroE zeroE zeroE))) (Is (.int .i64 2))) := by
  unfold Ret
  have hand := and128 c hc256
  rw [hbb] at hand
  clear hbb
  have h32 : ((32 : Int) != 32) = false := rfl
  have hO0 : Below w.heap.size w w := Below.refl _ _
  go_enter Tryz.func30, Tryz.ntmps30
  refine wp_seq_k fun K1 hK1 => ?_
  refine wp_plain_inv 2 (specs [Box w.heap.size (ptc zeroE zeroE zeroE zeroE) 60, Is (.int .i64 0)]) (specs_stb ⟨Box.stb _ _ _, Is.stb _, trivial⟩) (by kernel_rfl) ?_ ?_
  · refine ⟨fun a w hB hfr hdep => Step.plain rfl (dAlloc29 hB.size rfl),
      fun a w hB hfr hdep => Step.plain rfl (dAssign (R := Is (.int .i64 0)) rfl rfl), trivial⟩
  intro u1 hb1
  simp only [List.take, List.drop, FinAll, Act.put, List.setIfInBounds_toArray, List.set_cons_succ, List.set_cons_zero]
  rintro _ ⟨g2_1, rfl, l2_1, m2_1⟩ _ rfl
  have hO1 := (hO0).trans (hb1.mono (hO0).size)
  have lwm2_1 := Nat.le_trans (hO0).size l2_1
  have hT1 := Tab5.below hT hb1
  refine hK1 _ _ ?_
  clear hK1 K1
  refine wp_seq_k fun KA hKA => ?_
  have HKA : Hid _ := hKA
  clear hKA
  go_wp2
  refine HKA.out _ _ ?_
  clear HKA KA
  refine wp_seq_k fun K2 hK2 => ?_
  refine wp_plain_inv 3 (specs [Is (.slice (some ⟨gx, off, none⟩) 32 cap), OwnC u1.heap.size l, OwnC u1.heap.size l]) (specs_stb ⟨Is.stb _, OwnC.stb _ _, OwnC.stb _ _, trivial⟩) (by kernel_rfl) ?_ ?_
  · refine ⟨fun a w hB hfr hdep => Step.plain rfl (dMove (R := Is (.slice (some ⟨gx, off, none⟩) 32 cap)) rfl (hfr 0 (by kernel_rfl))),
      fun a w hB hfr hdep => Step.plain rfl (Does.call 65 #[(a.eval (.tmp 14))] (by kernel_rfl) (ownCLo hB.size (cloneIs w (hdep 0 14 (by kernel_rfl)) (Bts.stb _ _ _ _ hB (Bts.stb _ _ _ _ hO1 hb)) hl))),
      fun a w hB hfr hdep => Step.plain rfl (dAssign (R := OwnC u1.heap.size l) rfl (hdep 1 15 (by kernel_rfl))), trivial⟩
  intro u2 hb2
  simp only [List.take, List.drop, FinAll, Act.put, List.setIfInBounds_toArray, List.set_cons_succ, List.set_cons_zero]
  rintro _ rfl v15_2 h15_2 v4_2 h4_2
  have hO2 := (hO1).trans (hb2.mono (hO1).size)
  have m2_1__2 := block_below hb2 (lt_of_heap m2_1) m2_1
  have hT2 := Tab5.below hT1 hb2
  refine hK2 _ _ ?_
  clear hK2 K2
  obtain ⟨g4, cap4, cur4, hv4, hl4, hrow4, hc4, hc4', hcur⟩ := h4_2
  rw [hl] at hv4 hcur
  subst hv4
  have c31 := cell_of_row _ g4 31 _ _ _ hrow4
  rw [hcur 31 (by omega), ← hcc.out] at c31
  have f31 := frozen_of_row _ g4 31 _ _ hrow4
  have hst := cur_set hrow4 (by rw [hl]; exact hcur) 31 d (by omega)
  have hOs := (hO2).setCell (p := ⟨g4, 31, none⟩) (by show _ ≤ g4; have := hO1.size; omega) (.int .u8 (d : Int))
  have nz : g2_1 ≠ g4 := by have := lt_of_heap m2_1; omega
  have hz2 := (heap_setCell_other u2 ⟨g4, 31, none⟩ g2_1 (.int .u8 (d : Int)) nz).trans m2_1__2
  have hTs : Tab5 (u2.setCell ⟨g4, 31, none⟩ (.int .u8 (d : Int))) := hT2.setCell (by have := hT.size; have := hO1.size; show 6 < g4; omega)
  have HOS : Hid _ := hOs
  have HZ2 : Hid _ := hz2
  have HTS : Hid _ := hTs
  have HST : Hid _ := hst
  clear hOs hz2 hTs hst
  refine wp_seq_k fun KB hKB => ?_
  have HKB : Hid _ := hKB
  clear hKB
  go_wp2
  refine HKB.out _ _ ?_
  clear HKB KB
  have hO := HOS.out
  have hz := HZ2.out
  have hT9 := HTS.out
  have hb9 : Bts (l.set 31 d) (.slice (some ⟨g4, 0, none⟩) 32 cap4) (u2.setCell ⟨g4, 31, none⟩ (.int .u8 (d : Int))) := ⟨_, _, by rw [hl1], by rw [hl1]; rw [hl] at hc4; exact hc4, hc4', fun _ => ⟨g4, 0, rfl, bytesAt_cur HST.out.1 HST.out.2⟩⟩
  clear HOS HZ2 HTS HST c31 f31
  generalize u2.setCell ⟨g4, 31, none⟩ (.int .u8 (d : Int)) = uu at hO hz hT9 hb9 ⊢
  refine wp_seq_k fun K3 hK3 => ?_
  refine wp_plain_inv 6 (specs [Bts (l.set 31 d), Tup2 (El (0)) (Is (.int .i64 2)), Tup2 (El (0)) (Is (.int .i64 2)), El (0), Is (.int .i64 2), Box uu.heap.size (elc zeroE) 58]) (specs_stb ⟨Bts.stb _, Tup2.stb (El.stb _) (Is.stb _), Tup2.stb (El.stb _) (Is.stb _), El.stb _, Is.stb _, Box.stb _ _ _, trivial⟩) (by kernel_rfl) ?_ ?_
  · refine ⟨fun a w hB hfr hdep => Step.plain rfl (dMove (R := Bts (l.set 31 d)) rfl (use (hfr 4 (by kernel_rfl)) ((Bts.stb _) _ _ _ hB hb9))),
      fun a w hB hfr hdep => Step.plain rfl (Does.call 66 #[(a.eval (.tmp 22))] (by kernel_rfl) (cReadNot w (hdep 0 22 (by kernel_rfl)) hl1 hd1 hA)),
      fun a w hB hfr hdep => Step.plain rfl (dMove (R := Tup2 (El (0)) (Is (.int .i64 2))) rfl (hdep 1 23 (by kernel_rfl))),
      fun a w hB hfr hdep => Step.plain rfl (dExt0 rfl (hdep 2 21 (by kernel_rfl))),
      fun a w hB hfr hdep => Step.plain rfl (dExt1 rfl (hdep 2 21 (by kernel_rfl))),
      fun a w hB hfr hdep => Step.plain rfl (dAlloc27 hB.size rfl), trivial⟩
  intro u3 hb3
  simp only [List.take, List.drop, FinAll, Act.put, List.setIfInBounds_toArray, List.set_cons_succ, List.set_cons_zero]
  rintro v22_3 h22_3 v23_3 h23_3 v21_3 h21_3 _ ⟨e24_3, q24_3, rfl, x24_3⟩ _ rfl _ ⟨g5_3, rfl, l5_3, m5_3⟩
  refine wpList_store_row rfl 58 (.tmp 5) (.tmp 24) rfl _ (elc e24_3) rfl rfl 58 _ m5_3 info26 rfl (elc_one _) ?_
  have n5_3 := setRow_heap _ _ _ (elc e24_3) _ _ m5_3
  replace hb3 := setRow_below hb3 l5_3 (elc e24_3)
  generalize hw3_1 : u3.setRow g5_3 (elc e24_3) = u3_1 at n5_3 hb3  ⊢
  clear hw3_1 m5_3
  refine wpList_assign rfl rfl rfl ?_
  simp only [Act.put, Act.eval, Array.getD_eq_getD_getElem?, List.getElem?_toArray, List.getElem?_cons_succ, List.getElem?_cons_zero, Option.getD_some, List.setIfInBounds_toArray, List.set_cons_succ, List.set_cons_zero]
  have hO3 := (hO).trans (hb3.mono (hO).size)
  have hz__3 := block_below hb3 (lt_of_heap hz) hz
  have lwn5_3 := Nat.le_trans (hO).size l5_3
  have hT3 := Tab5.below hT9 hb3
  refine hK3 _ _ ?_
  clear hK3 K3
  refine wp_seq_k fun KO6 hKO6 => ?_
  refine wp_seq_k fun K4 hK4 => ?_
  refine wp_plain_inv 2 (specs [Is (.int .i64 2), Is (.bool true)]) (specs_stb ⟨Is.stb _, Is.stb _, trivial⟩) (by kernel_rfl) ?_ ?_
  · refine ⟨fun a w hB hfr hdep => Step.plain rfl (dMove (R := Is (.int .i64 2)) rfl (hfr 6 (by kernel_rfl))),
      fun a w hB hfr hdep => Step.plain rfl (Does.run _ (run_binO rfl (hdep 0 26 (by kernel_rfl)) rfl (by kernel_rfl)) rfl), trivial⟩
  intro u4 hb4
  simp only [List.take, List.drop, FinAll, Act.put, List.setIfInBounds_toArray, List.set_cons_succ, List.set_cons_zero]
  rintro _ rfl _ rfl
  have hO4 := (hO3).trans (hb4.mono (hO3).size)
  have hz__4 := block_below hb4 (lt_of_heap hz__3) hz__3
  have n5_3__4 := block_below hb4 (lt_of_heap n5_3) n5_3
  have hT4 := Tab5.below hT3 hb4
  refine hK4 _ _ ?_
  clear hK4 K4
  refine wp_cond_true rfl ?_
  refine wp_seq_k fun K5 hK5 => ?_
  refine wp_plain_inv 1 (specs [Is (.agg (ptc zeroE zeroE zeroE zeroE))]) (specs_stb ⟨Is.stb _, trivial⟩) (by kernel_rfl) ?_ ?_
  · refine ⟨fun a w hB hfr hdep => Step.plain rfl (Does.run _ (bu29z rfl) rfl), trivial⟩
  intro u5 hb5
  simp only [List.take, List.drop, FinAll, Act.put, List.setIfInBounds_toArray, List.set_cons_succ, List.set_cons_zero]
  rintro _ rfl
  have ohz__4 := block_below hb5 (lt_of_heap hz__4) hz__4
  refine wpList_store_row rfl 60 (.tmp 2) (.tmp 28) rfl _ (ptc zeroE zeroE zeroE zeroE) rfl rfl 60 _ ohz__4 info29 rfl (ptc_one _ _ _ _) ?_
  refine wpList_assign rfl rfl rfl ?_
  simp only [Act.put, Act.eval, List.setIfInBounds_toArray, List.set_cons_succ, List.set_cons_zero]
  have n2_5 := setRow_heap _ _ _ (ptc zeroE zeroE zeroE zeroE) _ _ ohz__4
  have hO5 := setRow_below (hO4.trans (hb5.mono (hO4).size)) lwm2_1 (ptc zeroE zeroE zeroE zeroE)
  refine hK5 _ _ ?_
  clear hK5 K5
  refine wp_ret ?_
  simp only [Exit.then]
  refine bodyPost_ret (v := .tuple #[.agg (ptc zeroE zeroE zeroE zeroE), .int .i64 2]) ?_ rfl ⟨_, rfl, hO5, ⟨_, _, rfl, rfl, rfl⟩⟩
  exact results_cell_tmp Tryz.results30 _ _ _ 60 _ (0, 0) _ _ rfl rfl n2_5 Tryz.underlying60 rfl (by first | exact info26 | exact info29 | exact info35 | (rw [(Pt4.cells (by assumption)).1]; exact info29) | (rw [cellsP_size (by assumption)]; exact info29))
theorem readCB (w : World) (hT : Tab5 w) {l : List Nat} {gx off cap c d : Nat} {bb : Bool} {e : Nat} (he : valD tab3.reverse = e) (hb : Bts l (.slice (some ⟨gx, off, none⟩) 32 cap) w) (hl : l.length = 32) (hcc : Hid (c = l.getD 31 0)) (hc256 : c < 256) (han : bits .andNot .u8 (c : Int) 128 = (d : Int)) (hbb : decide (128 ≤ c) = bb) (hl1 : (l.set 31 d).length = 32) (hd1 : Dig (l.set 31 d))
    (hgx : gx < w.heap.size) (hca : w.cell? ⟨gx, off + 31, none⟩ = some (.int .u8 (c : Int))) {y r : Fe} (hy : fe (valD (l.set 31 d)) = y) (hA : valD (l.set 31 d) < pp) (hr : rootOf e (av y) = r) (hs : ¬ r * r = av y) :
    Ret 30 #[.slice (some ⟨gx, off, none⟩) 32 cap] w (Tup2 (Is (.agg (ptc zeroE zeroE zeroE zeroE))) (Is (.int .i64 2))) := by
  unfold Ret
  have hand := and128 c hc256
  rw [hbb] at hand
  clear hbb
  have h32 : ((32 : Int) != 32) = false := rfl
  have hO0 : Below w.heap.size w w := Below.refl _ _
  go_enter Tryz.func30, Tryz.ntmps30
  refine wp_seq_k fun K1 hK1 => ?_
  refine wp_plain_inv 2 (specs [Box w.heap.size (ptc zeroE zeroE zeroE zeroE) 60, Is (.int .i64 0)]) (specs_stb ⟨Box.stb _ _ _, Is.stb _, trivial⟩) (by kernel_rfl) ?_ ?_
  · refine ⟨fun a w hB hfr hdep => Step.plain rfl (dAlloc29 hB.size rfl),
      fun a w hB hfr hdep => Step.plain rfl (dAssign (R := Is (.int .i64 0)) rfl rfl), trivial⟩
  intro u1 hb1
  simp only [List.take, List.drop, FinAll, Act.put, List.setIfInBounds_toArray, List.set_cons_succ, List.set_cons_zero]
  rintro _ ⟨g2_1, rfl, l2_1, m2_1⟩ _ rfl
  have hO1 := (hO0).trans (hb1.mono (hO0).size)
  have lwm2_1 := Nat.le_trans (hO0).size l2_1
  have hT1 := Tab5.below hT hb1
  refine hK1 _ _ ?_
  clear hK1 K1
  refine wp_seq_k fun KA hKA => ?_
  have HKA : Hid _ := hKA
  clear hKA
  go_wp2
  refine HKA.out _ _ ?_
  clear HKA KA
  refine wp_seq_k fun K2 hK2 => ?_
  refine wp_plain_inv 3 (specs [Is (.slice (some ⟨gx, off, none⟩) 32 cap), OwnC u1.heap.size l, OwnC u1.heap.size l]) (specs_stb ⟨Is.stb _, OwnC.stb _ _, OwnC.stb _ _, trivial⟩) (by kernel_rfl) ?_ ?_
  · refine ⟨fun a w hB hfr hdep => Step.plain rfl (dMove (R := Is (.slice (some ⟨gx, off, none⟩) 32 cap)) rfl (hfr 0 (by kernel_rfl))),
      fun a w hB hfr hdep => Step.plain rfl (Does.call 65 #[(a.eval (.tmp 14))] (by kernel_rfl) (ownCLo hB.size (cloneIs w (hdep 0 14 (by kernel_rfl)) (Bts.stb _ _ _ _ hB (Bts.stb _ _ _ _ hO1 hb)) hl))),
      fun a w hB hfr hdep => Step.plain rfl (dAssign (R := OwnC u1.heap.size l) rfl (hdep 1 15 (by kernel_rfl))), trivial⟩
  intro u2 hb2
  simp only [List.take, List.drop, FinAll, Act.put, List.setIfInBounds_toArray, List.set_cons_succ, List.set_cons_zero]
  rintro _ rfl v15_2 h15_2 v4_2 h4_2
  have hO2 := (hO1).trans (hb2.mono (hO1).size)
  have m2_1__2 := block_below hb2 (lt_of_heap m2_1) m2_1
  have hT2 := Tab5.below hT1 hb2
  refine hK2 _ _ ?_
  clear hK2 K2
  obtain ⟨g4, cap4, cur4, hv4, hl4, hrow4, hc4, hc4', hcur⟩ := h4_2
  rw [hl] at hv4 hcur
  subst hv4
  have c31 := cell_of_row _ g4 31 _ _ _ hrow4
  rw [hcur 31 (by omega), ← hcc.out] at c31
  have f31 := frozen_of_row _ g4 31 _ _ hrow4
  have hst := cur_set hrow4 (by rw [hl]; exact hcur) 31 d (by omega)
  have hOs := (hO2).setCell (p := ⟨g4, 31, none⟩) (by show _ ≤ g4; have := hO1.size; omega) (.int .u8 (d : Int))
  have nz : g2_1 ≠ g4 := by have := lt_of_heap m2_1; omega
  have hz2 := (heap_setCell_other u2 ⟨g4, 31, none⟩ g2_1 (.int .u8 (d : Int)) nz).trans m2_1__2
  have hTs : Tab5 (u2.setCell ⟨g4, 31, none⟩ (.int .u8 (d : Int))) := hT2.setCell (by have := hT.size; have := hO1.size; show 6 < g4; omega)
  have HOS : Hid _ := hOs
  have HZ2 : Hid _ := hz2
  have HTS : Hid _ := hTs
  have HST : Hid _ := hst
  clear hOs hz2 hTs hst
  refine wp_seq_k fun KB hKB => ?_
  have HKB : Hid _ := hKB
  clear hKB
  go_wp2
  refine HKB.out _ _ ?_
  clear HKB KB
  have hO := HOS.out
  have hz := HZ2.out
  have hT9 := HTS.out
  have hb9 : Bts (l.set 31 d) (.slice (some ⟨g4, 0, none⟩) 32 cap4) (u2.setCell ⟨g4, 31, none⟩ (.int .u8 (d : Int))) := ⟨_, _, by rw [hl1], by rw [hl1]; rw [hl] at hc4; exact hc4, hc4', fun _ => ⟨g4, 0, rfl, bytesAt_cur HST.out.1 HST.out.2⟩⟩
  clear HOS HZ2 HTS HST c31 f31
  generalize u2.setCell ⟨g4, 31, none⟩ (.int .u8 (d : Int)) = uu at hO hz hT9 hb9 ⊢
  refine wp_seq_k fun K3 hK3 => ?_
  refine wp_plain_inv 6 (specs [Bts (l.set 31 d), Tup2 (El (y)) (Is (.int .i64 0)), Tup2 (El (y)) (Is (.int .i64 0)), El (y), Is (.int .i64 0), Box uu.heap.size (elc zeroE) 58]) (specs_stb ⟨Bts.stb _, Tup2.stb (El.stb _) (Is.stb _), Tup2.stb (El.stb _) (Is.stb _), El.stb _, Is.stb _, Box.stb _ _ _, trivial⟩) (by kernel_rfl) ?_ ?_
  · refine ⟨fun a w hB hfr hdep => Step.plain rfl (dMove (R := Bts (l.set 31 d)) rfl (use (hfr 4 (by kernel_rfl)) ((Bts.stb _) _ _ _ hB hb9))),
      fun a w hB hfr hdep => Step.plain rfl (Does.call 66 #[(a.eval (.tmp 22))] (by kernel_rfl) (cReadY hy w (hdep 0 22 (by kernel_rfl)) hl1 hd1 hA)),
      fun a w hB hfr hdep => Step.plain rfl (dMove (R := Tup2 (El (y)) (Is (.int .i64 0))) rfl (hdep 1 23 (by kernel_rfl))),
      fun a w hB hfr hdep => Step.plain rfl (dExt0 rfl (hdep 2 21 (by kernel_rfl))),
      fun a w hB hfr hdep => Step.plain rfl (dExt1 rfl (hdep 2 21 (by kernel_rfl))),
      fun a w hB hfr hdep => Step.plain rfl (dAlloc27 hB.size rfl), trivial⟩
  intro u3 hb3
  simp only [List.take, List.drop, FinAll, Act.put, List.setIfInBounds_toArray, List.set_cons_succ, List.set_cons_zero]
  rintro v22_3 h22_3 v23_3 h23_3 v21_3 h21_3 _ ⟨e24_3, q24_3, rfl, x24_3⟩ _ rfl _ ⟨g5_3, rfl, l5_3, m5_3⟩
  refine wpList_store_row rfl 58 (.tmp 5) (.tmp 24) rfl _ (elc e24_3) rfl rfl 58 _ m5_3 info26 rfl (elc_one _) ?_
  have n5_3 := setRow_heap _ _ _ (elc e24_3) _ _ m5_3
  replace hb3 := setRow_below hb3 l5_3 (elc e24_3)
  generalize hw3_1 : u3.setRow g5_3 (elc e24_3) = u3_1 at n5_3 hb3  ⊢
  clear hw3_1 m5_3
  refine wpList_assign rfl rfl rfl ?_
  simp only [Act.put, Act.eval, Array.getD_eq_getD_getElem?, List.getElem?_toArray, List.getElem?_cons_succ, List.getElem?_cons_zero, Option.getD_some, List.setIfInBounds_toArray, List.set_cons_succ, List.set_cons_zero]
  have hO3 := (hO).trans (hb3.mono (hO).size)
  have hz__3 := block_below hb3 (lt_of_heap hz) hz
  have lwn5_3 := Nat.le_trans (hO).size l5_3
  have hT3 := Tab5.below hT9 hb3
  refine hK3 _ _ ?_
  clear hK3 K3
  refine wp_seq_k fun KO6 hKO6 => ?_
  refine wp_seq_k fun K4 hK4 => ?_
  refine wp_plain_inv 2 (specs [Is (.int .i64 0), Is (.bool false)]) (specs_stb ⟨Is.stb _, Is.stb _, trivial⟩) (by kernel_rfl) ?_ ?_
  · refine ⟨fun a w hB hfr hdep => Step.plain rfl (dMove (R := Is (.int .i64 0)) rfl (hfr 6 (by kernel_rfl))),
      fun a w hB hfr hdep => Step.plain rfl (Does.run _ (run_binO rfl (hdep 0 26 (by kernel_rfl)) rfl (by kernel_rfl)) rfl), trivial⟩
  intro u4 hb4
  simp only [List.take, List.drop, FinAll, Act.put, List.setIfInBounds_toArray, List.set_cons_succ, List.set_cons_zero]
  rintro _ rfl _ rfl
  have hO4 := (hO3).trans (hb4.mono (hO3).size)
  have hz__4 := block_below hb4 (lt_of_heap hz__3) hz__3
  have n5_3__4 := block_below hb4 (lt_of_heap n5_3) n5_3
  have hT4 := Tab5.below hT3 hb4
  refine hK4 _ _ ?_
  clear hK4 K4
  refine wp_cond_false rfl ?_
  refine wp_skip ?_
  refine hKO6 _ _ ?_
  clear hKO6 KO6
  refine wp_seq_k fun K5 hK5 => ?_
  refine wp_plain_inv 6 (specs [El (y), Tup2 (El (r)) (Is (.bool false)), Tup2 (El (r)) (Is (.bool false)), El (r), Is (.bool false), Box u4.heap.size (elc zeroE) 58]) (specs_stb ⟨El.stb _, Tup2.stb (El.stb _) (Is.stb _), Tup2.stb (El.stb _) (Is.stb _), El.stb _, Is.stb _, Box.stb _ _ _, trivial⟩) (by kernel_rfl) ?_ ?_
  · refine ⟨fun a w hB hfr hdep => Step.plain rfl (dLoadEl q24_3 x24_3 (block_below hB (lt_of_heap n5_3__4) n5_3__4) rfl (hfr 5 (by kernel_rfl)) (fun _ h => h)),
      fun a w hB hfr hdep => Step.plain rfl (Does.call 67 #[(a.eval (.tmp 30))] (by kernel_rfl) (cXWithF he hr hs w w (Tab5.below hT4 hB) (hdep 0 30 (by kernel_rfl)))),
      fun a w hB hfr hdep => Step.plain rfl (dMove (R := Tup2 (El (r)) (Is (.bool false))) rfl (hdep 1 31 (by kernel_rfl))),
      fun a w hB hfr hdep => Step.plain rfl (dExt0 rfl (hdep 2 29 (by kernel_rfl))),
      fun a w hB hfr hdep => Step.plain rfl (dExt1 rfl (hdep 2 29 (by kernel_rfl))),
      fun a w hB hfr hdep => Step.plain rfl (dAlloc27 hB.size rfl), trivial⟩
  intro u5 hb5
  simp only [List.take, List.drop, FinAll, Act.put, List.setIfInBounds_toArray, List.set_cons_succ, List.set_cons_zero]
  rintro v30_5 h30_5 v31_5 h31_5 v29_5 h29_5 _ ⟨e32_5, q32_5, rfl, x32_5⟩ _ rfl _ ⟨g7_5, rfl, l7_5, m7_5⟩
  refine wpList_store_row rfl 58 (.tmp 7) (.tmp 32) rfl _ (elc e32_5) rfl rfl 58 _ m7_5 info26 rfl (elc_one _) ?_
  have n7_5 := setRow_heap _ _ _ (elc e32_5) _ _ m7_5
  replace hb5 := setRow_below hb5 l7_5 (elc e32_5)
  generalize hw5_1 : u5.setRow g7_5 (elc e32_5) = u5_1 at n7_5 hb5  ⊢
  clear hw5_1 m7_5
  refine wpList_assign rfl rfl rfl ?_
  simp only [Act.put, Act.eval, Array.getD_eq_getD_getElem?, List.getElem?_toArray, List.getElem?_cons_succ, List.getElem?_cons_zero, Option.getD_some, List.setIfInBounds_toArray, List.set_cons_succ, List.set_cons_zero]
  have hO5 := (hO4).trans (hb5.mono (hO4).size)
  have hz__5 := block_below hb5 (lt_of_heap hz__4) hz__4
  have n5_3__5 := block_below hb5 (lt_of_heap n5_3__4) n5_3__4
  have lwn7_5 := Nat.le_trans (hO4).size l7_5
  have hT5 := Tab5.below hT4 hb5
  refine hK5 _ _ ?_
  clear hK5 K5
  refine wp_seq_k fun KO9 hKO9 => ?_
  refine wp_seq_k fun K6 hK6 => ?_
  refine wp_plain_inv 2 (specs [Is (.bool false), Is (.bool true)]) (specs_stb ⟨Is.stb _, Is.stb _, trivial⟩) (by kernel_rfl) ?_ ?_
  · refine ⟨fun a w hB hfr hdep => Step.plain rfl (dMove (R := Is (.bool false)) rfl (hfr 8 (by kernel_rfl))),
      fun a w hB hfr hdep => Step.plain rfl (Does.run _ (run_notO rfl (hdep 0 34 (by kernel_rfl))) rfl), trivial⟩
  intro u6 hb6
  simp only [List.take, List.drop, FinAll, Act.put, List.setIfInBounds_toArray, List.set_cons_succ, List.set_cons_zero]
  rintro _ rfl _ rfl
  have hO6 := (hO5).trans (hb6.mono (hO5).size)
  have hz__6 := block_below hb6 (lt_of_heap hz__5) hz__5
  have n5_3__6 := block_below hb6 (lt_of_heap n5_3__5) n5_3__5
  have n7_5__6 := block_below hb6 (lt_of_heap n7_5) n7_5
  have hT6 := Tab5.below hT5 hb6
  refine hK6 _ _ ?_
  clear hK6 K6
  refine wp_cond_true rfl ?_
  refine wp_seq_k fun K7 hK7 => ?_
  refine wp_plain_inv 1 (specs [Is (.agg (ptc zeroE zeroE zeroE zeroE))]) (specs_stb ⟨Is.stb _, trivial⟩) (by kernel_rfl) ?_ ?_
  · refine ⟨fun a w hB hfr hdep => Step.plain rfl (Does.run _ (bu29z rfl) rfl), trivial⟩
  intro u7 hb7
  simp only [List.take, List.drop, FinAll, Act.put, List.setIfInBounds_toArray, List.set_cons_succ, List.set_cons_zero]
  rintro _ rfl
  have ohz__6 := block_below hb7 (lt_of_heap hz__6) hz__6
  refine wpList_store_row rfl 60 (.tmp 2) (.tmp 36) rfl _ (ptc zeroE zeroE zeroE zeroE) rfl rfl 60 _ ohz__6 info29 rfl (ptc_one _ _ _ _) ?_
  refine wpList_assign rfl rfl rfl ?_
  simp only [Act.put, Act.eval, List.setIfInBounds_toArray, List.set_cons_succ, List.set_cons_zero]
  have n2_7 := setRow_heap _ _ _ (ptc zeroE zeroE zeroE zeroE) _ _ ohz__6
  have hO7 := setRow_below (hO6.trans (hb7.mono (hO6).size)) lwm2_1 (ptc zeroE zeroE zeroE zeroE)
  refine hK7 _ _ ?_
  clear hK7 K7
  refine wp_ret ?_
  simp only [Exit.then]
  refine bodyPost_ret (v := .tuple #[.agg (ptc zeroE zeroE zeroE zeroE), .int .i64 2]) ?_ rfl ⟨_, rfl, hO7, ⟨_, _, rfl, rfl, rfl⟩⟩
  exact results_cell_tmp Tryz.results30 _ _ _ 60 _ (0, 0) _ _ rfl rfl n2_7 Tryz.underlying60 rfl (by first | exact info26 | exact info29 | exact info35 | (rw [(Pt4.cells (by assumption)).1]; exact info29) | (rw [cellsP_size (by assumption)]; exact info29))
theorem readCC (w : World) (hT : Tab5 w) {l : List Nat} {gx off cap c d : Nat} {bb : Bool} {e : Nat} (he : valD tab3.reverse = e) (hb : Bts l (.slice (some ⟨gx, off, none⟩) 32 cap) w) (hl : l.length = 32) (hcc : Hid (c = l.getD 31 0)) (hc256 : c < 256) (han : bits .andNot .u8 (c : Int) 128 = (d : Int)) (hbb : decide (128 ≤ c) = bb) (hl1 : (l.set 31 d).length = 32) (hd1 : Dig (l.set 31 d))
    (hgx : gx < w.heap.size) (hca : w.cell? ⟨gx, off + 31, none⟩ = some (.int .u8 (c : Int))) {y r : Fe} {p : Pt} (hy : fe (valD (l.set 31 d)) = y) (hA : valD (l.set 31 d) < pp) (hr : rootOf e (av y) = r) (hs : r * r = av y) (ho1 : decide (r.val % 2 = 1) = bb) (hpx : p.x = r) (hpy : p.y = y) :
    Ret 30 #[.slice (some ⟨gx, off, none⟩) 32 cap] w (Tup2 (PtV p) (Is (.int .i64 0))) := by
  unfold Ret
  have hand := and128 c hc256
  rw [hbb] at hand
  clear hbb
  have ho2 := ho1
  have h32 : ((32 : Int) != 32) = false := rfl
  have hO0 : Below w.heap.size w w := Below.refl _ _
  go_enter Tryz.func30, Tryz.ntmps30
  refine wp_seq_k fun K1 hK1 => ?_
  refine wp_plain_inv 2 (specs [Box w.heap.size (ptc zeroE zeroE zeroE zeroE) 60, Is (.int .i64 0)]) (specs_stb ⟨Box.stb _ _ _, Is.stb _, trivial⟩) (by kernel_rfl) ?_ ?_
  · refine ⟨fun a w hB hfr hdep => Step.plain rfl (dAlloc29 hB.size rfl),
      fun a w hB hfr hdep => Step.plain rfl (dAssign (R := Is (.int .i64 0)) rfl rfl), trivial⟩
  intro u1 hb1
  simp only [List.take, List.drop, FinAll, Act.put, List.setIfInBounds_toArray, List.set_cons_succ, List.set_cons_zero]
  rintro _ ⟨g2_1, rfl, l2_1, m2_1⟩ _ rfl
  have hO1 := (hO0).trans (hb1.mono (hO0).size)
  have lwm2_1 := Nat.le_trans (hO0).size l2_1
  have hT1 := Tab5.below hT hb1
  refine hK1 _ _ ?_
  clear hK1 K1
  refine wp_seq_k fun KA hKA => ?_
  have HKA : Hid _ := hKA
  clear hKA
  go_wp2
  refine HKA.out _ _ ?_
  clear HKA KA
  refine wp_seq_k fun K2 hK2 => ?_
  refine wp_plain_inv 3 (specs [Is (.slice (some ⟨gx, off, none⟩) 32 cap), OwnC u1.heap.size l, OwnC u1.heap.size l]) (specs_stb ⟨Is.stb _, OwnC.stb _ _, OwnC.stb _ _, trivial⟩) (by kernel_rfl) ?_ ?_
  · refine ⟨fun a w hB hfr hdep => Step.plain rfl (dMove (R := Is (.slice (some ⟨gx, off, none⟩) 32 cap)) rfl (hfr 0 (by kernel_rfl))),
      fun a w hB hfr hdep => Step.plain rfl (Does.call 65 #[(a.eval (.tmp 14))] (by kernel_rfl) (ownCLo hB.size (cloneIs w (hdep 0 14 (by kernel_rfl)) (Bts.stb _ _ _ _ hB (Bts.stb _ _ _ _ hO1 hb)) hl))),
      fun a w hB hfr hdep => Step.plain rfl (dAssign (R := OwnC u1.heap.size l) rfl (hdep 1 15 (by kernel_rfl))), trivial⟩
  intro u2 hb2
  simp only [List.take, List.drop, FinAll, Act.put, List.setIfInBounds_toArray, List.set_cons_succ, List.set_cons_zero]
  rintro _ rfl v15_2 h15_2 v4_2 h4_2
  have hO2 := (hO1).trans (hb2.mono (hO1).size)
  have m2_1__2 := block_below hb2 (lt_of_heap m2_1) m2_1
  have hT2 := Tab5.below hT1 hb2
  refine hK2 _ _ ?_
  clear hK2 K2
  obtain ⟨g4, cap4, cur4, hv4, hl4, hrow4, hc4, hc4', hcur⟩ := h4_2
  rw [hl] at hv4 hcur
  subst hv4
  have c31 := cell_of_row _ g4 31 _ _ _ hrow4
  rw [hcur 31 (by omega), ← hcc.out] at c31
  have f31 := frozen_of_row _ g4 31 _ _ hrow4
  have hst := cur_set hrow4 (by rw [hl]; exact hcur) 31 d (by omega)
  have hOs := (hO2).setCell (p := ⟨g4, 31, none⟩) (by show _ ≤ g4; have := hO1.size; omega) (.int .u8 (d : Int))
  have nz : g2_1 ≠ g4 := by have := lt_of_heap m2_1; omega
  have hz2 := (heap_setCell_other u2 ⟨g4, 31, none⟩ g2_1 (.int .u8 (d : Int)) nz).trans m2_1__2
  have hTs : Tab5 (u2.setCell ⟨g4, 31, none⟩ (.int .u8 (d : Int))) := hT2.setCell (by have := hT.size; have := hO1.size; show 6 < g4; omega)
  have HOS : Hid _ := hOs
  have HZ2 : Hid _ := hz2
  have HTS : Hid _ := hTs
  have HST : Hid _ := hst
  clear hOs hz2 hTs hst
  refine wp_seq_k fun KB hKB => ?_
  have HKB : Hid _ := hKB
  clear hKB
  go_wp2
  refine HKB.out _ _ ?_
  clear HKB KB
  have hO := HOS.out
  have hz := HZ2.out
  have hT9 := HTS.out
  have hb9 : Bts (l.set 31 d) (.slice (some ⟨g4, 0, none⟩) 32 cap4) (u2.setCell ⟨g4, 31, none⟩ (.int .u8 (d : Int))) := ⟨_, _, by rw [hl1], by rw [hl1]; rw [hl] at hc4; exact hc4, hc4', fun _ => ⟨g4, 0, rfl, bytesAt_cur HST.out.1 HST.out.2⟩⟩
  clear HOS HZ2 HTS HST c31 f31
  generalize u2.setCell ⟨g4, 31, none⟩ (.int .u8 (d : Int)) = uu at hO hz hT9 hb9 ⊢
  refine wp_seq_k fun K3 hK3 => ?_
  refine wp_plain_inv 6 (specs [Bts (l.set 31 d), Tup2 (El (y)) (Is (.int .i64 0)), Tup2 (El (y)) (Is (.int .i64 0)), El (y), Is (.int .i64 0), Box uu.heap.size (elc zeroE) 58]) (specs_stb ⟨Bts.stb _, Tup2.stb (El.stb _) (Is.stb _), Tup2.stb (El.stb _) (Is.stb _), El.stb _, Is.stb _, Box.stb _ _ _, trivial⟩) (by kernel_rfl) ?_ ?_
  · refine ⟨fun a w hB hfr hdep => Step.plain rfl (dMove (R := Bts (l.set 31 d)) rfl (use (hfr 4 (by kernel_rfl)) ((Bts.stb _) _ _ _ hB hb9))),
      fun a w hB hfr hdep => Step.plain rfl (Does.call 66 #[(a.eval (.tmp 22))] (by kernel_rfl) (cReadY hy w (hdep 0 22 (by kernel_rfl)) hl1 hd1 hA)),
      fun a w hB hfr hdep => Step.plain rfl (dMove (R := Tup2 (El (y)) (Is (.int .i64 0))) rfl (hdep 1 23 (by kernel_rfl))),
      fun a w hB hfr hdep => Step.plain rfl (dExt0 rfl (hdep 2 21 (by kernel_rfl))),
      fun a w hB hfr hdep => Step.plain rfl (dExt1 rfl (hdep 2 21 (by kernel_rfl))),
      fun a w hB hfr hdep => Step.plain rfl (dAlloc27 hB.size rfl), trivial⟩
  intro u3 hb3
  simp only [List.take, List.drop, FinAll, Act.put, List.setIfInBounds_toArray, List.set_cons_succ, List.set_cons_zero]
  rintro v22_3 h22_3 v23_3 h23_3 v21_3 h21_3 _ ⟨e24_3, q24_3, rfl, x24_3⟩ _ rfl _ ⟨g5_3, rfl, l5_3, m5_3⟩
  refine wpList_store_row rfl 58 (.tmp 5) (.tmp 24) rfl _ (elc e24_3) rfl rfl 58 _ m5_3 info26 rfl (elc_one _) ?_
  have n5_3 := setRow_heap _ _ _ (elc e24_3) _ _ m5_3
  replace hb3 := setRow_below hb3 l5_3 (elc e24_3)
  generalize hw3_1 : u3.setRow g5_3 (elc e24_3) = u3_1 at n5_3 hb3  ⊢
  clear hw3_1 m5_3
  refine wpList_assign rfl rfl rfl ?_
  simp only [Act.put, Act.eval, Array.getD_eq_getD_getElem?, List.getElem?_toArray, List.getElem?_cons_succ, List.getElem?_cons_zero, Option.getD_some, List.setIfInBounds_toArray, List.set_cons_succ, List.set_cons_zero]
  have hO3 := (hO).trans (hb3.mono (hO).size)
  have hz__3 := block_below hb3 (lt_of_heap hz) hz
  have lwn5_3 := Nat.le_trans (hO).size l5_3
  have hT3 := Tab5.below hT9 hb3
  refine hK3 _ _ ?_
  clear hK3 K3
  refine wp_seq_k fun KO6 hKO6 => ?_
  refine wp_seq_k fun K4 hK4 => ?_
  refine wp_plain_inv 2 (specs [Is (.int .i64 0), Is (.bool false)]) (specs_stb ⟨Is.stb _, Is.stb _, trivial⟩) (by kernel_rfl) ?_ ?_
  · refine ⟨fun a w hB hfr hdep => Step.plain rfl (dMove (R := Is (.int .i64 0)) rfl (hfr 6 (by kernel_rfl))),
      fun a w hB hfr hdep => Step.plain rfl (Does.run _ (run_binO rfl (hdep 0 26 (by kernel_rfl)) rfl (by kernel_rfl)) rfl), trivial⟩
  intro u4 hb4
  simp only [List.take, List.drop, FinAll, Act.put, List.setIfInBounds_toArray, List.set_cons_succ, List.set_cons_zero]
  rintro _ rfl _ rfl
  have hO4 := (hO3).trans (hb4.mono (hO3).size)
  have hz__4 := block_below hb4 (lt_of_heap hz__3) hz__3
  have n5_3__4 := block_below hb4 (lt_of_heap n5_3) n5_3
  have hT4 := Tab5.below hT3 hb4
  refine hK4 _ _ ?_
  clear hK4 K4
  refine wp_cond_false rfl ?_
  refine wp_skip ?_
  refine hKO6 _ _ ?_
  clear hKO6 KO6
  refine wp_seq_k fun K5 hK5 => ?_
  refine wp_plain_inv 6 (specs [El (y), Tup2 (El (r)) (Is (.bool true)), Tup2 (El (r)) (Is (.bool true)), El (r), Is (.bool true), Box u4.heap.size (elc zeroE) 58]) (specs_stb ⟨El.stb _, Tup2.stb (El.stb _) (Is.stb _), Tup2.stb (El.stb _) (Is.stb _), El.stb _, Is.stb _, Box.stb _ _ _, trivial⟩) (by kernel_rfl) ?_ ?_
  · refine ⟨fun a w hB hfr hdep => Step.plain rfl (dLoadEl q24_3 x24_3 (block_below hB (lt_of_heap n5_3__4) n5_3__4) rfl (hfr 5 (by kernel_rfl)) (fun _ h => h)),
      fun a w hB hfr hdep => Step.plain rfl (Does.call 67 #[(a.eval (.tmp 30))] (by kernel_rfl) (cXWithT he hr hs w w (Tab5.below hT4 hB) (hdep 0 30 (by kernel_rfl)))),
      fun a w hB hfr hdep => Step.plain rfl (dMove (R := Tup2 (El (r)) (Is (.bool true))) rfl (hdep 1 31 (by kernel_rfl))),
      fun a w hB hfr hdep => Step.plain rfl (dExt0 rfl (hdep 2 29 (by kernel_rfl))),
      fun a w hB hfr hdep => Step.plain rfl (dExt1 rfl (hdep 2 29 (by kernel_rfl))),
      fun a w hB hfr hdep => Step.plain rfl (dAlloc27 hB.size rfl), trivial⟩
  intro u5 hb5
  simp only [List.take, List.drop, FinAll, Act.put, List.setIfInBounds_toArray, List.set_cons_succ, List.set_cons_zero]
  rintro v30_5 h30_5 v31_5 h31_5 v29_5 h29_5 _ ⟨e32_5, q32_5, rfl, x32_5⟩ _ rfl _ ⟨g7_5, rfl, l7_5, m7_5⟩
  refine wpList_store_row rfl 58 (.tmp 7) (.tmp 32) rfl _ (elc e32_5) rfl rfl 58 _ m7_5 info26 rfl (elc_one _) ?_
  have n7_5 := setRow_heap _ _ _ (elc e32_5) _ _ m7_5
  replace hb5 := setRow_below hb5 l7_5 (elc e32_5)
  generalize hw5_1 : u5.setRow g7_5 (elc e32_5) = u5_1 at n7_5 hb5  ⊢
  clear hw5_1 m7_5
  refine wpList_assign rfl rfl rfl ?_
  simp only [Act.put, Act.eval, Array.getD_eq_getD_getElem?, List.getElem?_toArray, List.getElem?_cons_succ, List.getElem?_cons_zero, Option.getD_some, List.setIfInBounds_toArray, List.set_cons_succ, List.set_cons_zero]
  have hO5 := (hO4).trans (hb5.mono (hO4).size)
  have hz__5 := block_below hb5 (lt_of_heap hz__4) hz__4
  have n5_3__5 := block_below hb5 (lt_of_heap n5_3__4) n5_3__4
  have lwn7_5 := Nat.le_trans (hO4).size l7_5
  have hT5 := Tab5.below hT4 hb5
  refine hK5 _ _ ?_
  clear hK5 K5
  refine wp_seq_k fun KO9 hKO9 => ?_
  refine wp_seq_k fun K6 hK6 => ?_
  refine wp_plain_inv 2 (specs [Is (.bool true), Is (.bool false)]) (specs_stb ⟨Is.stb _, Is.stb _, trivial⟩) (by kernel_rfl) ?_ ?_
  · refine ⟨fun a w hB hfr hdep => Step.plain rfl (dMove (R := Is (.bool true)) rfl (hfr 8 (by kernel_rfl))),
      fun a w hB hfr hdep => Step.plain rfl (Does.run _ (run_notO rfl (hdep 0 34 (by kernel_rfl))) rfl), trivial⟩
  intro u6 hb6
  simp only [List.take, List.drop, FinAll, Act.put, List.setIfInBounds_toArray, List.set_cons_succ, List.set_cons_zero]
  rintro _ rfl _ rfl
  have hO6 := (hO5).trans (hb6.mono (hO5).size)
  have hz__6 := block_below hb6 (lt_of_heap hz__5) hz__5
  have n5_3__6 := block_below hb6 (lt_of_heap n5_3__5) n5_3__5
  have n7_5__6 := block_below hb6 (lt_of_heap n7_5) n7_5
  have hT6 := Tab5.below hT5 hb6
  refine hK6 _ _ ?_
  clear hK6 K6
  refine wp_cond_false rfl ?_
  refine wp_skip ?_
  refine hKO9 _ _ ?_
  clear hKO9 KO9
  have ca := (hO6.cell (p := ⟨gx, off + 31, none⟩) hgx).trans hca
  refine wp_seq_k fun KC hKC => ?_
  have HKC : Hid _ := hKC
  clear hKC
  go_wp2
  refine HKC.out _ _ ?_
  clear HKC KC
  refine wp_seq_k fun KO12 hKO12 => ?_
  refine wp_seq_k fun K7 hK7 => ?_
  refine wp_plain_inv 4 (specs [El (r), Is (.bool bb), Is (.bool bb), Is (.bool false)]) (specs_stb ⟨El.stb _, Is.stb _, Is.stb _, Is.stb _, trivial⟩) (by kernel_rfl) ?_ ?_
  · refine ⟨fun a w hB hfr hdep => Step.plain rfl (dLoadEl q32_5 x32_5 (block_below hB (lt_of_heap n7_5__6) n7_5__6) rfl (hfr 7 (by kernel_rfl)) (fun _ h => h)),
      fun a w hB hfr hdep => Step.plain rfl (Does.call 68 #[(a.eval (.tmp 42))] (by kernel_rfl) (cOddB ho1 w w (hdep 0 42 (by kernel_rfl)))),
      fun a w hB hfr hdep => Step.plain rfl (dMove (R := Is (.bool bb)) rfl (hfr 9 (by kernel_rfl))),
      fun a w hB hfr hdep => Step.plain rfl (Does.run _ (run_neqS rfl (hdep 1 43 (by kernel_rfl)) (hdep 2 44 (by kernel_rfl))) rfl), trivial⟩
  intro u7 hb7
  simp only [List.take, List.drop, FinAll, Act.put, List.setIfInBounds_toArray, List.set_cons_succ, List.set_cons_zero]
  rintro v42_7 h42_7 _ rfl _ rfl _ rfl
  have hO7 := (hO6).trans (hb7.mono (hO6).size)
  have hz__7 := block_below hb7 (lt_of_heap hz__6) hz__6
  have n5_3__7 := block_below hb7 (lt_of_heap n5_3__6) n5_3__6
  have n7_5__7 := block_below hb7 (lt_of_heap n7_5__6) n7_5__6
  have hT7 := Tab5.below hT6 hb7
  refine hK7 _ _ ?_
  clear hK7 K7
  refine wp_cond_false rfl ?_
  refine wp_skip ?_
  refine hKO12 _ _ ?_
  clear hKO12 KO12
  refine wp_seq_k fun KO14 hKO14 => ?_
  refine wp_seq_k fun K8 hK8 => ?_
  refine wp_plain_inv 4 (specs [El (r), Is (.bool bb), Is (.bool bb), Is (.bool false)]) (specs_stb ⟨El.stb _, Is.stb _, Is.stb _, Is.stb _, trivial⟩) (by kernel_rfl) ?_ ?_
  · refine ⟨fun a w hB hfr hdep => Step.plain rfl (dLoadEl q32_5 x32_5 (block_below hB (lt_of_heap n7_5__7) n7_5__7) rfl (hfr 7 (by kernel_rfl)) (fun _ h => h)),
      fun a w hB hfr hdep => Step.plain rfl (Does.call 68 #[(a.eval (.tmp 48))] (by kernel_rfl) (cOddB ho2 w w (hdep 0 48 (by kernel_rfl)))),
      fun a w hB hfr hdep => Step.plain rfl (dMove (R := Is (.bool bb)) rfl (hfr 9 (by kernel_rfl))),
      fun a w hB hfr hdep => Step.plain rfl (Does.run _ (run_neqS rfl (hdep 1 49 (by kernel_rfl)) (hdep 2 50 (by kernel_rfl))) rfl), trivial⟩
  intro u8 hb8
  simp only [List.take, List.drop, FinAll, Act.put, List.setIfInBounds_toArray, List.set_cons_succ, List.set_cons_zero]
  rintro v48_8 h48_8 _ rfl _ rfl _ rfl
  have hO8 := (hO7).trans (hb8.mono (hO7).size)
  have hz__8 := block_below hb8 (lt_of_heap hz__7) hz__7
  have n5_3__8 := block_below hb8 (lt_of_heap n5_3__7) n5_3__7
  have n7_5__8 := block_below hb8 (lt_of_heap n7_5__7) n7_5__7
  have hT8 := Tab5.below hT7 hb8
  refine hK8 _ _ ?_
  clear hK8 K8
  refine wp_cond_false rfl ?_
  refine wp_skip ?_
  refine hKO14 _ _ ?_
  clear hKO14 KO14
  refine wp_seq_k fun K9 hK9 => ?_
  refine wp_plain_inv 3 (specs [El (r), El (y), Pt4 (r) (y) (1) ((r) * (y))]) (specs_stb ⟨El.stb _, El.stb _, Pt4.stb _ _ _ _, trivial⟩) (by kernel_rfl) ?_ ?_
  · refine ⟨fun a w hB hfr hdep => Step.plain rfl (dLoadEl q32_5 x32_5 (block_below hB (lt_of_heap n7_5__8) n7_5__8) rfl (hfr 7 (by kernel_rfl)) (fun _ h => h)),
      fun a w hB hfr hdep => Step.plain rfl (dLoadEl q24_3 x24_3 (block_below hB (lt_of_heap n5_3__8) n5_3__8) rfl (hfr 5 (by kernel_rfl)) (fun _ h => h)),
      fun a w hB hfr hdep => Step.plain rfl (Does.call 70 #[(a.eval (.tmp 53)), (a.eval (.tmp 54))] (by kernel_rfl) (cOfPair w w w (hdep 0 53 (by kernel_rfl)) (hdep 1 54 (by kernel_rfl)))), trivial⟩
  intro u9 hb9
  simp only [List.take, List.drop, FinAll, Act.put, List.setIfInBounds_toArray, List.set_cons_succ, List.set_cons_zero]
  rintro v53_9 h53_9 v54_9 h54_9 _ ⟨e55_9, rfl, x55_9⟩
  have ohz__8 := block_below hb9 (lt_of_heap hz__8) hz__8
  refine wpList_store_row rfl 60 (.tmp 2) (.tmp 55) rfl _ (e55_9) rfl rfl 60 _ ohz__8 (by rw [(Pt4.cells x55_9).1]; exact info29) (by rw [(Pt4.cells x55_9).1]; rfl) (Pt4.cells x55_9).2 ?_
  refine wpList_assign rfl rfl rfl ?_
  simp only [Act.put, Act.eval, List.setIfInBounds_toArray, List.set_cons_succ, List.set_cons_zero]
  have n2_9 := setRow_heap _ _ _ (e55_9) _ _ ohz__8
  have hO9 := setRow_below (hO8.trans (hb9.mono (hO8).size)) lwm2_1 (e55_9)
  have hpp : Rep (r) (y) (1) ((r) * (y)) p := by have := rep_aff p; rw [hpx, hpy] at this; exact this
  refine hK9 _ _ ?_
  clear hK9 K9
  refine wp_ret ?_
  refine bodyPost_ret (v := .tuple #[.agg (e55_9), .int .i64 0]) ?_ rfl ⟨_, rfl, hO9, ⟨_, _, rfl, ⟨_, rfl, _, _, _, _, x55_9, hpp⟩, rfl⟩⟩
  exact results_cell_tmp Tryz.results30 _ _ _ 60 _ (0, 0) _ _ rfl rfl n2_9 Tryz.underlying60 rfl (by first | exact info26 | exact info29 | exact info35 | (rw [(Pt4.cells (by assumption)).1]; exact info29) | (rw [cellsP_size (by assumption)]; exact info29))
theorem readCD (w : World) (hT : Tab5 w) {l : List Nat} {gx off cap c d : Nat} {bb : Bool} {e : Nat} (he : valD tab3.reverse = e) (hb : Bts l (.slice (some ⟨gx, off, none⟩) 32 cap) w) (hl : l.length = 32) (hcc : Hid (c = l.getD 31 0)) (hc256 : c < 256) (han : bits .andNot .u8 (c : Int) 128 = (d : Int)) (hbb : decide (128 ≤ c) = bb) (hl1 : (l.set 31 d).length = 32) (hd1 : Dig (l.set 31 d))
    (hgx : gx < w.heap.size) (hca : w.cell? ⟨gx, off + 31, none⟩ = some (.int .u8 (c : Int))) {y r : Fe} {p : Pt} (hy : fe (valD (l.set 31 d)) = y) (hA : valD (l.set 31 d) < pp) (hr : rootOf e (av y) = r) (hs : r * r = av y) (ho1 : decide (r.val % 2 = 1) = !bb) (ho2 : decide ((0 - r).val % 2 = 1) = bb) (hpx : p.x = 0 - (r)) (hpy : p.y = y) :
    Ret 30 #[.slice (some ⟨gx, off, none⟩) 32 cap] w (Tup2 (PtV p) (Is (.int .i64 0))) := by
  unfold Ret
  have hand := and128 c hc256
  rw [hbb] at hand
  clear hbb
  have h32 : ((32 : Int) != 32) = false := rfl
  have hO0 : Below w.heap.size w w := Below.refl _ _
  go_enter Tryz.func30, Tryz.ntmps30
  refine wp_seq_k fun K1 hK1 => ?_
  refine wp_plain_inv 2 (specs [Box w.heap.size (ptc zeroE zeroE zeroE zeroE) 60, Is (.int .i64 0)]) (specs_stb ⟨Box.stb _ _ _, Is.stb _, trivial⟩) (by kernel_rfl) ?_ ?_
  · refine ⟨fun a w hB hfr hdep => Step.plain rfl (dAlloc29 hB.size rfl),
      fun a w hB hfr hdep => Step.plain rfl (dAssign (R := Is (.int .i64 0)) rfl rfl), trivial⟩
  intro u1 hb1
  simp only [List.take, List.drop, FinAll, Act.put, List.setIfInBounds_toArray, List.set_cons_succ, List.set_cons_zero]
  rintro _ ⟨g2_1, rfl, l2_1, m2_1⟩ _ rfl
  have hO1 := (hO0).trans (hb1.mono (hO0).size)
  have lwm2_1 := Nat.le_trans (hO0).size l2_1
  have hT1 := Tab5.below hT hb1
  refine hK1 _ _ ?_
  clear hK1 K1
  refine wp_seq_k fun KA hKA => ?_
  have HKA : Hid _ := hKA
  clear hKA
  go_wp2
  refine HKA.out _ _ ?_
  clear HKA KA
  refine wp_seq_k fun K2 hK2 => ?_
  refine wp_plain_inv 3 (specs [Is (.slice (some ⟨gx, off, none⟩) 32 cap), OwnC u1.heap.size l, OwnC u1.heap.size l]) (specs_stb ⟨Is.stb _, OwnC.stb _ _, OwnC.stb _ _, trivial⟩) (by kernel_rfl) ?_ ?_
  · refine ⟨fun a w hB hfr hdep => Step.plain rfl (dMove (R := Is (.slice (some ⟨gx, off, none⟩) 32 cap)) rfl (hfr 0 (by kernel_rfl))),
      fun a w hB hfr hdep => Step.plain rfl (Does.call 65 #[(a.eval (.tmp 14))] (by kernel_rfl) (ownCLo hB.size (cloneIs w (hdep 0 14 (by kernel_rfl)) (Bts.stb _ _ _ _ hB (Bts.stb _ _ _ _ hO1 hb)) hl))),
      fun a w hB hfr hdep => Step.plain rfl (dAssign (R := OwnC u1.heap.size l) rfl (hdep 1 15 (by kernel_rfl))), trivial⟩
  intro u2 hb2
  simp only [List.take, List.drop, FinAll, Act.put, List.setIfInBounds_toArray, List.set_cons_succ, List.set_cons_zero]
  rintro _ rfl v15_2 h15_2 v4_2 h4_2
  have hO2 := (hO1).trans (hb2.mono (hO1).size)
  have m2_1__2 := block_below hb2 (lt_of_heap m2_1) m2_1
  have hT2 := Tab5.below hT1 hb2
  refine hK2 _ _ ?_
  clear hK2 K2
  obtain ⟨g4, cap4, cur4, hv4, hl4, hrow4, hc4, hc4', hcur⟩ := h4_2
  rw [hl] at hv4 hcur
  subst hv4
  have c31 := cell_of_row _ g4 31 _ _ _ hrow4
  rw [hcur 31 (by omega), ← hcc.out] at c31
  have f31 := frozen_of_row _ g4 31 _ _ hrow4
  have hst := cur_set hrow4 (by rw [hl]; exact hcur) 31 d (by omega)
  have hOs := (hO2).setCell (p := ⟨g4, 31, none⟩) (by show _ ≤ g4; have := hO1.size; omega) (.int .u8 (d : Int))
  have nz : g2_1 ≠ g4 := by have := lt_of_heap m2_1; omega
  have hz2 := (heap_setCell_other u2 ⟨g4, 31, none⟩ g2_1 (.int .u8 (d : Int)) nz).trans m2_1__2
  have hTs : Tab5 (u2.setCell ⟨g4, 31, none⟩ (.int .u8 (d : Int))) := hT2.setCell (by have := hT.size; have := hO1.size; show 6 < g4; omega)
  have HOS : Hid _ := hOs
  have HZ2 : Hid _ := hz2
  have HTS : Hid _ := hTs
  have HST : Hid _ := hst
  clear hOs hz2 hTs hst
  refine wp_seq_k fun KB hKB => ?_
  have HKB : Hid _ := hKB
  clear hKB
  go_wp2
  refine HKB.out _ _ ?_
  clear HKB KB
  have hO := HOS.out
  have hz := HZ2.out
  have hT9 := HTS.out
  have hb9 : Bts (l.set 31 d) (.slice (some ⟨g4, 0, none⟩) 32 cap4) (u2.setCell ⟨g4, 31, none⟩ (.int .u8 (d : Int))) := ⟨_, _, by rw [hl1], by rw [hl1]; rw [hl] at hc4; exact hc4, hc4', fun _ => ⟨g4, 0, rfl, bytesAt_cur HST.out.1 HST.out.2⟩⟩
  clear HOS HZ2 HTS HST c31 f31
  generalize u2.setCell ⟨g4, 31, none⟩ (.int .u8 (d : Int)) = uu at hO hz hT9 hb9 ⊢
  refine wp_seq_k fun K3 hK3 => ?_
  refine wp_plain_inv 6 (specs [Bts (l.set 31 d), Tup2 (El (y)) (Is (.int .i64 0)), Tup2 (El (y)) (Is (.int .i64 0)), El (y), Is (.int .i64 0), Box uu.heap.size (elc zeroE) 58]) (specs_stb ⟨Bts.stb _, Tup2.stb (El.stb _) (Is.stb _), Tup2.stb (El.stb _) (Is.stb _), El.stb _, Is.stb _, Box.stb _ _ _, trivial⟩) (by kernel_rfl) ?_ ?_
  · refine ⟨fun a w hB hfr hdep => Step.plain rfl (dMove (R := Bts (l.set 31 d)) rfl (use (hfr 4 (by kernel_rfl)) ((Bts.stb _) _ _ _ hB hb9))),
      fun a w hB hfr hdep => Step.plain rfl (Does.call 66 #[(a.eval (.tmp 22))] (by kernel_rfl) (cReadY hy w (hdep 0 22 (by kernel_rfl)) hl1 hd1 hA)),
      fun a w hB hfr hdep => Step.plain rfl (dMove (R := Tup2 (El (y)) (Is (.int .i64 0))) rfl (hdep 1 23 (by kernel_rfl))),
      fun a w hB hfr hdep => Step.plain rfl (dExt0 rfl (hdep 2 21 (by kernel_rfl))),
      fun a w hB hfr hdep => Step.plain rfl (dExt1 rfl (hdep 2 21 (by kernel_rfl))),
      fun a w hB hfr hdep => Step.plain rfl (dAlloc27 hB.size rfl), trivial⟩
  intro u3 hb3
  simp only [List.take, List.drop, FinAll, Act.put, List.setIfInBounds_toArray, List.set_cons_succ, List.set_cons_zero]
  rintro v22_3 h22_3 v23_3 h23_3 v21_3 h21_3 _ ⟨e24_3, q24_3, rfl, x24_3⟩ _ rfl _ ⟨g5_3, rfl, l5_3, m5_3⟩
  refine wpList_store_row rfl 58 (.tmp 5) (.tmp 24) rfl _ (elc e24_3) rfl rfl 58 _ m5_3 info26 rfl (elc_one _) ?_
  have n5_3 := setRow_heap _ _ _ (elc e24_3) _ _ m5_3
  replace hb3 := setRow_below hb3 l5_3 (elc e24_3)
  generalize hw3_1 : u3.setRow g5_3 (elc e24_3) = u3_1 at n5_3 hb3  ⊢
  clear hw3_1 m5_3
  refine wpList_assign rfl rfl rfl ?_
  simp only [Act.put, Act.eval, Array.getD_eq_getD_getElem?, List.getElem?_toArray, List.getElem?_cons_succ, List.getElem?_cons_zero, Option.getD_some, List.setIfInBounds_toArray, List.set_cons_succ, List.set_cons_zero]
  have hO3 := (hO).trans (hb3.mono (hO).size)
  have hz__3 := block_below hb3 (lt_of_heap hz) hz
  have lwn5_3 := Nat.le_trans (hO).size l5_3
  have hT3 := Tab5.below hT9 hb3
  refine hK3 _ _ ?_
  clear hK3 K3
  refine wp_seq_k fun KO6 hKO6 => ?_
  refine wp_seq_k fun K4 hK4 => ?_
  refine wp_plain_inv 2 (specs [Is (.int .i64 0), Is (.bool false)]) (specs_stb ⟨Is.stb _, Is.stb _, trivial⟩) (by kernel_rfl) ?_ ?_
  · refine ⟨fun a w hB hfr hdep => Step.plain rfl (dMove (R := Is (.int .i64 0)) rfl (hfr 6 (by kernel_rfl))),
      fun a w hB hfr hdep => Step.plain rfl (Does.run _ (run_binO rfl (hdep 0 26 (by kernel_rfl)) rfl (by kernel_rfl)) rfl), trivial⟩
  intro u4 hb4
  simp only [List.take, List.drop, FinAll, Act.put, List.setIfInBounds_toArray, List.set_cons_succ, List.set_cons_zero]
  rintro _ rfl _ rfl
  have hO4 := (hO3).trans (hb4.mono (hO3).size)
  have hz__4 := block_below hb4 (lt_of_heap hz__3) hz__3
  have n5_3__4 := block_below hb4 (lt_of_heap n5_3) n5_3
  have hT4 := Tab5.below hT3 hb4
  refine hK4 _ _ ?_
  clear hK4 K4
  refine wp_cond_false rfl ?_
  refine wp_skip ?_
  refine hKO6 _ _ ?_
  clear hKO6 KO6
  refine wp_seq_k fun K5 hK5 => ?_
  refine wp_plain_inv 6 (specs [El (y), Tup2 (El (r)) (Is (.bool true)), Tup2 (El (r)) (Is (.bool true)), El (r), Is (.bool true), Box u4.heap.size (elc zeroE) 58]) (specs_stb ⟨El.stb _, Tup2.stb (El.stb _) (Is.stb _), Tup2.stb (El.stb _) (Is.stb _), El.stb _, Is.stb _, Box.stb _ _ _, trivial⟩) (by kernel_rfl) ?_ ?_
  · refine ⟨fun a w hB hfr hdep => Step.plain rfl (dLoadEl q24_3 x24_3 (block_below hB (lt_of_heap n5_3__4) n5_3__4) rfl (hfr 5 (by kernel_rfl)) (fun _ h => h)),
      fun a w hB hfr hdep => Step.plain rfl (Does.call 67 #[(a.eval (.tmp 30))] (by kernel_rfl) (cXWithT he hr hs w w (Tab5.below hT4 hB) (hdep 0 30 (by kernel_rfl)))),
      fun a w hB hfr hdep => Step.plain rfl (dMove (R := Tup2 (El (r)) (Is (.bool true))) rfl (hdep 1 31 (by kernel_rfl))),
      fun a w hB hfr hdep => Step.plain rfl (dExt0 rfl (hdep 2 29 (by kernel_rfl))),
      fun a w hB hfr hdep => Step.plain rfl (dExt1 rfl (hdep 2 29 (by kernel_rfl))),
      fun a w hB hfr hdep => Step.plain rfl (dAlloc27 hB.size rfl), trivial⟩
  intro u5 hb5
  simp only [List.take, List.drop, FinAll, Act.put, List.setIfInBounds_toArray, List.set_cons_succ, List.set_cons_zero]
  rintro v30_5 h30_5 v31_5 h31_5 v29_5 h29_5 _ ⟨e32_5, q32_5, rfl, x32_5⟩ _ rfl _ ⟨g7_5, rfl, l7_5, m7_5⟩
  refine wpList_store_row rfl 58 (.tmp 7) (.tmp 32) rfl _ (elc e32_5) rfl rfl 58 _ m7_5 info26 rfl (elc_one _) ?_
  have n7_5 := setRow_heap _ _ _ (elc e32_5) _ _ m7_5
  replace hb5 := setRow_below hb5 l7_5 (elc e32_5)
  generalize hw5_1 : u5.setRow g7_5 (elc e32_5) = u5_1 at n7_5 hb5  ⊢
  clear hw5_1 m7_5
  refine wpList_assign rfl rfl rfl ?_
  simp only [Act.put, Act.eval, Array.getD_eq_getD_getElem?, List.getElem?_toArray, List.getElem?_cons_succ, List.getElem?_cons_zero, Option.getD_some, List.setIfInBounds_toArray, List.set_cons_succ, List.set_cons_zero]
  have hO5 := (hO4).trans (hb5.mono (hO4).size)
  have hz__5 := block_below hb5 (lt_of_heap hz__4) hz__4
  have n5_3__5 := block_below hb5 (lt_of_heap n5_3__4) n5_3__4
  have lwn7_5 := Nat.le_trans (hO4).size l7_5
  have hT5 := Tab5.below hT4 hb5
  refine hK5 _ _ ?_
  clear hK5 K5
  refine wp_seq_k fun KO9 hKO9 => ?_
  refine wp_seq_k fun K6 hK6 => ?_
  refine wp_plain_inv 2 (specs [Is (.bool true), Is (.bool false)]) (specs_stb ⟨Is.stb _, Is.stb _, trivial⟩) (by kernel_rfl) ?_ ?_
  · refine ⟨fun a w hB hfr hdep => Step.plain rfl (dMove (R := Is (.bool true)) rfl (hfr 8 (by kernel_rfl))),
      fun a w hB hfr hdep => Step.plain rfl (Does.run _ (run_notO rfl (hdep 0 34 (by kernel_rfl))) rfl), trivial⟩
  intro u6 hb6
  simp only [List.take, List.drop, FinAll, Act.put, List.setIfInBounds_toArray, List.set_cons_succ, List.set_cons_zero]
  rintro _ rfl _ rfl
  have hO6 := (hO5).trans (hb6.mono (hO5).size)
  have hz__6 := block_below hb6 (lt_of_heap hz__5) hz__5
  have n5_3__6 := block_below hb6 (lt_of_heap n5_3__5) n5_3__5
  have n7_5__6 := block_below hb6 (lt_of_heap n7_5) n7_5
  have hT6 := Tab5.below hT5 hb6
  refine hK6 _ _ ?_
  clear hK6 K6
  refine wp_cond_false rfl ?_
  refine wp_skip ?_
  refine hKO9 _ _ ?_
  clear hKO9 KO9
  have ca := (hO6.cell (p := ⟨gx, off + 31, none⟩) hgx).trans hca
  refine wp_seq_k fun KC hKC => ?_
  have HKC : Hid _ := hKC
  clear hKC
  go_wp2
  refine HKC.out _ _ ?_
  clear HKC KC
  refine wp_seq_k fun KO12 hKO12 => ?_
  refine wp_seq_k fun K7 hK7 => ?_
  refine wp_plain_inv 4 (specs [El (r), Is (.bool (!bb)), Is (.bool bb), Is (.bool true)]) (specs_stb ⟨El.stb _, Is.stb _, Is.stb _, Is.stb _, trivial⟩) (by kernel_rfl) ?_ ?_
  · refine ⟨fun a w hB hfr hdep => Step.plain rfl (dLoadEl q32_5 x32_5 (block_below hB (lt_of_heap n7_5__6) n7_5__6) rfl (hfr 7 (by kernel_rfl)) (fun _ h => h)),
      fun a w hB hfr hdep => Step.plain rfl (Does.call 68 #[(a.eval (.tmp 42))] (by kernel_rfl) (cOddB ho1 w w (hdep 0 42 (by kernel_rfl)))),
      fun a w hB hfr hdep => Step.plain rfl (dMove (R := Is (.bool bb)) rfl (hfr 9 (by kernel_rfl))),
      fun a w hB hfr hdep => Step.plain rfl (Does.run _ (run_neqD rfl (hdep 1 43 (by kernel_rfl)) (hdep 2 44 (by kernel_rfl))) rfl), trivial⟩
  intro u7 hb7
  simp only [List.take, List.drop, FinAll, Act.put, List.setIfInBounds_toArray, List.set_cons_succ, List.set_cons_zero]
  rintro v42_7 h42_7 _ rfl _ rfl _ rfl
  have hO7 := (hO6).trans (hb7.mono (hO6).size)
  have hz__7 := block_below hb7 (lt_of_heap hz__6) hz__6
  have n5_3__7 := block_below hb7 (lt_of_heap n5_3__6) n5_3__6
  have n7_5__7 := block_below hb7 (lt_of_heap n7_5__6) n7_5__6
  have hT7 := Tab5.below hT6 hb7
  refine hK7 _ _ ?_
  clear hK7 K7
  refine wp_cond_true rfl ?_
  have q2 : g2_1 ≠ g7_5 := by have := lt_of_heap hz; have := hb3.size; have := hb4.size; have := hb5.size; have := hb6.size; omega
  have q5 : g5_3 ≠ g7_5 := by have := lt_of_heap n5_3; have := hb3.size; have := hb4.size; have := hb5.size; have := hb6.size; omega
  have n5 : 6 < g7_5 := by have := hT9.size; have := hb3.size; have := hb4.size; have := hb5.size; have := hb6.size; omega
  refine wp_plain_inv 2 (specs [El (r), El (0 - (r))]) (specs_stb ⟨El.stb _, El.stb _, trivial⟩) (by kernel_rfl) ?_ ?_
  · refine ⟨fun a w hB hfr hdep => Step.plain rfl (dLoadEl q32_5 x32_5 (block_below hB (lt_of_heap n7_5__7) n7_5__7) rfl (hfr 7 (by kernel_rfl)) (fun _ h => h)),
      fun a w hB hfr hdep => Step.plain rfl (Does.call 69 #[(a.eval (.tmp 46))] (by kernel_rfl) (cNegEl w w (hdep 0 46 (by kernel_rfl)))), trivial⟩
  intro u8 hb8
  simp only [List.take, List.drop, FinAll, Act.put, List.setIfInBounds_toArray, List.set_cons_succ, List.set_cons_zero]
  rintro v46_8 h46_8 _ ⟨e47_8, q47_8, rfl, x47_8⟩
  have on7_5__7 := block_below hb8 (lt_of_heap n7_5__7) n7_5__7
  refine wpList_store_row rfl 58 (.tmp 7) (.tmp 47) rfl _ (elc e47_8) rfl rfl 58 _ on7_5__7 info26 rfl (elc_one _) ?_
  have n7_8 := setRow_heap _ _ _ (elc e47_8) _ _ on7_5__7
  have hO8 := setRow_below (hO7.trans (hb8.mono (hO7).size)) lwn7_5 (elc e47_8)
  have hz__8 := (setRow_other u8 g7_5 g2_1 (elc e47_8) q2).trans (block_below hb8 (lt_of_heap hz__7) hz__7)
  have n5_3__8 := (setRow_other u8 g7_5 g5_3 (elc e47_8) q5).trans (block_below hb8 (lt_of_heap n5_3__7) n5_3__7)
  have hT8 : Tab5 (u8.setRow g7_5 (elc e47_8)) := hT7.setRow hb8 (n5)
  generalize u8.setRow g7_5 (elc e47_8) = u8_s at hO8 hz__8 n5_3__8 n7_8 hT8 ⊢
  refine hKO12 _ _ ?_
  clear hKO12 KO12
  refine wp_seq_k fun KO14 hKO14 => ?_
  refine wp_seq_k fun K9 hK9 => ?_
  refine wp_plain_inv 4 (specs [El (0 - (r)), Is (.bool bb), Is (.bool bb), Is (.bool false)]) (specs_stb ⟨El.stb _, Is.stb _, Is.stb _, Is.stb _, trivial⟩) (by kernel_rfl) ?_ ?_
  · refine ⟨fun a w hB hfr hdep => Step.plain rfl (dLoadEl q47_8 x47_8 (block_below hB (lt_of_heap n7_8) n7_8) rfl (hfr 7 (by kernel_rfl)) (fun _ h => h)),
      fun a w hB hfr hdep => Step.plain rfl (Does.call 68 #[(a.eval (.tmp 48))] (by kernel_rfl) (cOddB ho2 w w (hdep 0 48 (by kernel_rfl)))),
      fun a w hB hfr hdep => Step.plain rfl (dMove (R := Is (.bool bb)) rfl (hfr 9 (by kernel_rfl))),
      fun a w hB hfr hdep => Step.plain rfl (Does.run _ (run_neqS rfl (hdep 1 49 (by kernel_rfl)) (hdep 2 50 (by kernel_rfl))) rfl), trivial⟩
  intro u9 hb9
  simp only [List.take, List.drop, FinAll, Act.put, List.setIfInBounds_toArray, List.set_cons_succ, List.set_cons_zero]
  rintro v48_9 h48_9 _ rfl _ rfl _ rfl
  have hO9 := (hO8).trans (hb9.mono (hO8).size)
  have hz__9 := block_below hb9 (lt_of_heap hz__8) hz__8
  have n5_3__9 := block_below hb9 (lt_of_heap n5_3__8) n5_3__8
  have n7_8__9 := block_below hb9 (lt_of_heap n7_8) n7_8
  have hT9 := Tab5.below hT8 hb9
  refine hK9 _ _ ?_
  clear hK9 K9
  refine wp_cond_false rfl ?_
  refine wp_skip ?_
  refine hKO14 _ _ ?_
  clear hKO14 KO14
  refine wp_seq_k fun K10 hK10 => ?_
  refine wp_plain_inv 3 (specs [El (0 - (r)), El (y), Pt4 (0 - (r)) (y) (1) ((0 - (r)) * (y))]) (specs_stb ⟨El.stb _, El.stb _, Pt4.stb _ _ _ _, trivial⟩) (by kernel_rfl) ?_ ?_
  · refine ⟨fun a w hB hfr hdep => Step.plain rfl (dLoadEl q47_8 x47_8 (block_below hB (lt_of_heap n7_8__9) n7_8__9) rfl (hfr 7 (by kernel_rfl)) (fun _ h => h)),
      fun a w hB hfr hdep => Step.plain rfl (dLoadEl q24_3 x24_3 (block_below hB (lt_of_heap n5_3__9) n5_3__9) rfl (hfr 5 (by kernel_rfl)) (fun _ h => h)),
      fun a w hB hfr hdep => Step.plain rfl (Does.call 70 #[(a.eval (.tmp 53)), (a.eval (.tmp 54))] (by kernel_rfl) (cOfPair w w w (hdep 0 53 (by kernel_rfl)) (hdep 1 54 (by kernel_rfl)))), trivial⟩
  intro u10 hb10
  simp only [List.take, List.drop, FinAll, Act.put, List.setIfInBounds_toArray, List.set_cons_succ, List.set_cons_zero]
  rintro v53_10 h53_10 v54_10 h54_10 _ ⟨e55_10, rfl, x55_10⟩
  have ohz__9 := block_below hb10 (lt_of_heap hz__9) hz__9
  refine wpList_store_row rfl 60 (.tmp 2) (.tmp 55) rfl _ (e55_10) rfl rfl 60 _ ohz__9 (by rw [(Pt4.cells x55_10).1]; exact info29) (by rw [(Pt4.cells x55_10).1]; rfl) (Pt4.cells x55_10).2 ?_
  refine wpList_assign rfl rfl rfl ?_
  simp only [Act.put, Act.eval, List.setIfInBounds_toArray, List.set_cons_succ, List.set_cons_zero]
  have n2_10 := setRow_heap _ _ _ (e55_10) _ _ ohz__9
  have hO10 := setRow_below (hO9.trans (hb10.mono (hO9).size)) lwm2_1 (e55_10)
  have hpp : Rep (0 - (r)) (y) (1) ((0 - (r)) * (y)) p := by have := rep_aff p; rw [hpx, hpy] at this; exact this
  refine hK10 _ _ ?_
  clear hK10 K10
  refine wp_ret ?_
  refine bodyPost_ret (v := .tuple #[.agg (e55_10), .int .i64 0]) ?_ rfl ⟨_, rfl, hO10, ⟨_, _, rfl, ⟨_, rfl, _, _, _, _, x55_10, hpp⟩, rfl⟩⟩
  exact results_cell_tmp Tryz.results30 _ _ _ 60 _ (0, 0) _ _ rfl rfl n2_10 Tryz.underlying60 rfl (by first | exact info26 | exact info29 | exact info35 | (rw [(Pt4.cells (by assumption)).1]; exact info29) | (rw [cellsP_size (by assumption)]; exact info29))
theorem readCE (w : World) (hT : Tab5 w) {l : List Nat} {gx off cap c d : Nat} {bb : Bool} {e : Nat} (he : valD tab3.reverse = e) (hb : Bts l (.slice (some ⟨gx, off, none⟩) 32 cap) w) (hl : l.length = 32) (hcc : Hid (c = l.getD 31 0)) (hc256 : c < 256) (han : bits .andNot .u8 (c : Int) 128 = (d : Int)) (hbb : decide (128 ≤ c) = bb) (hl1 : (l.set 31 d).length = 32) (hd1 : Dig (l.set 31 d))
    (hgx : gx < w.heap.size) (hca : w.cell? ⟨gx, off + 31, none⟩ = some (.int .u8 (c : Int))) {y r : Fe} (hy : fe (valD (l.set 31 d)) = y) (hA : valD (l.set 31 d) < pp) (hr : rootOf e (av y) = r) (hs : r * r = av y) (ho1 : decide (r.val % 2 = 1) = !bb) (ho2 : decide ((0 - r).val % 2 = 1) = !bb) :
    Ret 30 #[.slice (some ⟨gx, off, none⟩) 32 cap] w (Tup2 (Is (.agg (ptc zeroE zeroE zeroE zeroE))) (Is (.int .i64 2))) := by
  unfold Ret
  have hand := and128 c hc256
  rw [hbb] at hand
  clear hbb
  have h32 : ((32 : Int) != 32) = false := rfl
  have hO0 : Below w.heap.size w w := Below.refl _ _
  go_enter Tryz.func30, Tryz.ntmps30
  refine wp_seq_k fun K1 hK1 => ?_
  refine wp_plain_inv 2 (specs [Box w.heap.size (ptc zeroE zeroE zeroE zeroE) 60, Is (.int .i64 0)]) (specs_stb ⟨Box.stb _ _ _, Is.stb _, trivial⟩) (by kernel_rfl) ?_ ?_
  · refine ⟨fun a w hB hfr hdep => Step.plain rfl (dAlloc29 hB.size rfl),
      fun a w hB hfr hdep => Step.plain rfl (dAssign (R := Is (.int .i64 0)) rfl rfl), trivial⟩
  intro u1 hb1
  simp only [List.take, List.drop, FinAll, Act.put, List.setIfInBounds_toArray, List.set_cons_succ, List.set_cons_zero]
  rintro _ ⟨g2_1, rfl, l2_1, m2_1⟩ _ rfl
  have hO1 := (hO0).trans (hb1.mono (hO0).size)
  have lwm2_1 := Nat.le_trans (hO0).size l2_1
  have hT1 := Tab5.below hT hb1
  refine hK1 _ _ ?_
  clear hK1 K1
  refine wp_seq_k fun KA hKA => ?_
  have HKA : Hid _ := hKA
  clear hKA
  go_wp2
  refine HKA.out _ _ ?_
  clear HKA KA
  refine wp_seq_k fun K2 hK2 => ?_
  refine wp_plain_inv 3 (specs [Is (.slice (some ⟨gx, off, none⟩) 32 cap), OwnC u1.heap.size l, OwnC u1.heap.size l]) (specs_stb ⟨Is.stb _, OwnC.stb _ _, OwnC.stb _ _, trivial⟩) (by kernel_rfl) ?_ ?_
  · refine ⟨fun a w hB hfr hdep => Step.plain rfl (dMove (R := Is (.slice (some ⟨gx, off, none⟩) 32 cap)) rfl (hfr 0 (by kernel_rfl))),
      fun a w hB hfr hdep => Step.plain rfl (Does.call 65 #[(a.eval (.tmp 14))] (by kernel_rfl) (ownCLo hB.size (cloneIs w (hdep 0 14 (by kernel_rfl)) (Bts.stb _ _ _ _ hB (Bts.stb _ _ _ _ hO1 hb)) hl))),
      fun a w hB hfr hdep => Step.plain rfl (dAssign (R := OwnC u1.heap.size l) rfl (hdep 1 15 (by kernel_rfl))), trivial⟩
  intro u2 hb2
  simp only [List.take, List.drop, FinAll, Act.put, List.setIfInBounds_toArray, List.set_cons_succ, List.set_cons_zero]
  rintro _ rfl v15_2 h15_2 v4_2 h4_2
  have hO2 := (hO1).trans (hb2.mono (hO1).size)
  have m2_1__2 := block_below hb2 (lt_of_heap m2_1) m2_1
  have hT2 := Tab5.below hT1 hb2
  refine hK2 _ _ ?_
  clear hK2 K2
  obtain ⟨g4, cap4, cur4, hv4, hl4, hrow4, hc4, hc4', hcur⟩ := h4_2
  rw [hl] at hv4 hcur
  subst hv4
  have c31 := cell_of_row _ g4 31 _ _ _ hrow4
  rw [hcur 31 (by omega), ← hcc.out] at c31
  have f31 := frozen_of_row _ g4 31 _ _ hrow4
  have hst := cur_set hrow4 (by rw [hl]; exact hcur) 31 d (by omega)
  have hOs := (hO2).setCell (p := ⟨g4, 31, none⟩) (by show _ ≤ g4; have := hO1.size; omega) (.int .u8 (d : Int))
  have nz : g2_1 ≠ g4 := by have := lt_of_heap m2_1; omega
  have hz2 := (heap_setCell_other u2 ⟨g4, 31, none⟩ g2_1 (.int .u8 (d : Int)) nz).trans m2_1__2
  have hTs : Tab5 (u2.setCell ⟨g4, 31, none⟩ (.int .u8 (d : Int))) := hT2.setCell (by have := hT.size; have := hO1.size; show 6 < g4; omega)
  have HOS : Hid _ := hOs
  have HZ2 : Hid _ := hz2
  have HTS : Hid _ := hTs
  have HST : Hid _ := hst
  clear hOs hz2 hTs hst
  refine wp_seq_k fun KB hKB => ?_
  have HKB : Hid _ := hKB
  clear hKB
  go_wp2
  refine HKB.out _ _ ?_
  clear HKB KB
  have hO := HOS.out
  have hz := HZ2.out
  have hT9 := HTS.out
  have hb9 : Bts (l.set 31 d) (.slice (some ⟨g4, 0, none⟩) 32 cap4) (u2.setCell ⟨g4, 31, none⟩ (.int .u8 (d : Int))) := ⟨_, _, by rw [hl1], by rw [hl1]; rw [hl] at hc4; exact hc4, hc4', fun _ => ⟨g4, 0, rfl, bytesAt_cur HST.out.1 HST.out.2⟩⟩
  clear HOS HZ2 HTS HST c31 f31
  generalize u2.setCell ⟨g4, 31, none⟩ (.int .u8 (d : Int)) = uu at hO hz hT9 hb9 ⊢
  refine wp_seq_k fun K3 hK3 => ?_
  refine wp_plain_inv 6 (specs [Bts (l.set 31 d), Tup2 (El (y)) (Is (.int .i64 0)), Tup2 (El (y)) (Is (.int .i64 0)), El (y), Is (.int .i64 0), Box uu.heap.size (elc zeroE) 58]) (specs_stb ⟨Bts.stb _, Tup2.stb (El.stb _) (Is.stb _), Tup2.stb (El.stb _) (Is.stb _), El.stb _, Is.stb _, Box.stb _ _ _, trivial⟩) (by kernel_rfl) ?_ ?_
  · refine ⟨fun a w hB hfr hdep => Step.plain rfl (dMove (R := Bts (l.set 31 d)) rfl (use (hfr 4 (by kernel_rfl)) ((Bts.stb _) _ _ _ hB hb9))),
      fun a w hB hfr hdep => Step.plain rfl (Does.call 66 #[(a.eval (.tmp 22))] (by kernel_rfl) (cReadY hy w (hdep 0 22 (by kernel_rfl)) hl1 hd1 hA)),
      fun a w hB hfr hdep => Step.plain rfl (dMove (R := Tup2 (El (y)) (Is (.int .i64 0))) rfl (hdep 1 23 (by kernel_rfl))),
      fun a w hB hfr hdep => Step.plain rfl (dExt0 rfl (hdep 2 21 (by kernel_rfl))),
      fun a w hB hfr hdep => Step.plain rfl (dExt1 rfl (hdep 2 21 (by kernel_rfl))),
      fun a w hB hfr hdep => Step.plain rfl (dAlloc27 hB.size rfl), trivial⟩
  intro u3 hb3
  simp only [List.take, List.drop, FinAll, Act.put, List.setIfInBounds_toArray, List.set_cons_succ, List.set_cons_zero]
  rintro v22_3 h22_3 v23_3 h23_3 v21_3 h21_3 _ ⟨e24_3, q24_3, rfl, x24_3⟩ _ rfl _ ⟨g5_3, rfl, l5_3, m5_3⟩
  refine wpList_store_row rfl 58 (.tmp 5) (.tmp 24) rfl _ (elc e24_3) rfl rfl 58 _ m5_3 info26 rfl (elc_one _) ?_
  have n5_3 := setRow_heap _ _ _ (elc e24_3) _ _ m5_3
  replace hb3 := setRow_below hb3 l5_3 (elc e24_3)
  generalize hw3_1 : u3.setRow g5_3 (elc e24_3) = u3_1 at n5_3 hb3  ⊢
  clear hw3_1 m5_3
  refine wpList_assign rfl rfl rfl ?_
  simp only [Act.put, Act.eval, Array.getD_eq_getD_getElem?, List.getElem?_toArray, List.getElem?_cons_succ, List.getElem?_cons_zero, Option.getD_some, List.setIfInBounds_toArray, List.set_cons_succ, List.set_cons_zero]
  have hO3 := (hO).trans (hb3.mono (hO).size)
  have hz__3 := block_below hb3 (lt_of_heap hz) hz
  have lwn5_3 := Nat.le_trans (hO).size l5_3
  have hT3 := Tab5.below hT9 hb3
  refine hK3 _ _ ?_
  clear hK3 K3
  refine wp_seq_k fun KO6 hKO6 => ?_
  refine wp_seq_k fun K4 hK4 => ?_
  refine wp_plain_inv 2 (specs [Is (.int .i64 0), Is (.bool false)]) (specs_stb ⟨Is.stb _, Is.stb _, trivial⟩) (by kernel_rfl) ?_ ?_
  · refine ⟨fun a w hB hfr hdep => Step.plain rfl (dMove (R := Is (.int .i64 0)) rfl (hfr 6 (by kernel_rfl))),
      fun a w hB hfr hdep => Step.plain rfl (Does.run _ (run_binO rfl (hdep 0 26 (by kernel_rfl)) rfl (by kernel_rfl)) rfl), trivial⟩
  intro u4 hb4
  simp only [List.take, List.drop, FinAll, Act.put, List.setIfInBounds_toArray, List.set_cons_succ, List.set_cons_zero]
  rintro _ rfl _ rfl
  have hO4 := (hO3).trans (hb4.mono (hO3).size)
  have hz__4 := block_below hb4 (lt_of_heap hz__3) hz__3
  have n5_3__4 := block_below hb4 (lt_of_heap n5_3) n5_3
  have hT4 := Tab5.below hT3 hb4
  refine hK4 _ _ ?_
  clear hK4 K4
  refine wp_cond_false rfl ?_
  refine wp_skip ?_
  refine hKO6 _ _ ?_
  clear hKO6 KO6
  refine wp_seq_k fun K5 hK5 => ?_
  refine wp_plain_inv 6 (specs [El (y), Tup2 (El (r)) (Is (.bool true)), Tup2 (El (r)) (Is (.bool true)), El (r), Is (.bool true), Box u4.heap.size (elc zeroE) 58]) (specs_stb ⟨El.stb _, Tup2.stb (El.stb _) (Is.stb _), Tup2.stb (El.stb _) (Is.stb _), El.stb _, Is.stb _, Box.stb _ _ _, trivial⟩) (by kernel_rfl) ?_ ?_
  · refine ⟨fun a w hB hfr hdep => Step.plain rfl (dLoadEl q24_3 x24_3 (block_below hB (lt_of_heap n5_3__4) n5_3__4) rfl (hfr 5 (by kernel_rfl)) (fun _ h => h)),
      fun a w hB hfr hdep => Step.plain rfl (Does.call 67 #[(a.eval (.tmp 30))] (by kernel_rfl) (cXWithT he hr hs w w (Tab5.below hT4 hB) (hdep 0 30 (by kernel_rfl)))),
      fun a w hB hfr hdep => Step.plain rfl (dMove (R := Tup2 (El (r)) (Is (.bool true))) rfl (hdep 1 31 (by kernel_rfl))),
      fun a w hB hfr hdep => Step.plain rfl (dExt0 rfl (hdep 2 29 (by kernel_rfl))),
      fun a w hB hfr hdep => Step.plain rfl (dExt1 rfl (hdep 2 29 (by kernel_rfl))),
      fun a w hB hfr hdep => Step.plain rfl (dAlloc27 hB.size rfl), trivial⟩
  intro u5 hb5
  simp only [List.take, List.drop, FinAll, Act.put, List.setIfInBounds_toArray, List.set_cons_succ, List.set_cons_zero]
  rintro v30_5 h30_5 v31_5 h31_5 v29_5 h29_5 _ ⟨e32_5, q32_5, rfl, x32_5⟩ _ rfl _ ⟨g7_5, rfl, l7_5, m7_5⟩
  refine wpList_store_row rfl 58 (.tmp 7) (.tmp 32) rfl _ (elc e32_5) rfl rfl 58 _ m7_5 info26 rfl (elc_one _) ?_
  have n7_5 := setRow_heap _ _ _ (elc e32_5) _ _ m7_5
  replace hb5 := setRow_below hb5 l7_5 (elc e32_5)
  generalize hw5_1 : u5.setRow g7_5 (elc e32_5) = u5_1 at n7_5 hb5  ⊢
  clear hw5_1 m7_5
  refine wpList_assign rfl rfl rfl ?_
  simp only [Act.put, Act.eval, Array.getD_eq_getD_getElem?, List.getElem?_toArray, List.getElem?_cons_succ, List.getElem?_cons_zero, Option.getD_some, List.setIfInBounds_toArray, List.set_cons_succ, List.set_cons_zero]
  have hO5 := (hO4).trans (hb5.mono (hO4).size)
  have hz__5 := block_below hb5 (lt_of_heap hz__4) hz__4
  have n5_3__5 := block_below hb5 (lt_of_heap n5_3__4) n5_3__4
  have lwn7_5 := Nat.le_trans (hO4).size l7_5
  have hT5 := Tab5.below hT4 hb5
  refine hK5 _ _ ?_
  clear hK5 K5
  refine wp_seq_k fun KO9 hKO9 => ?_
  refine wp_seq_k fun K6 hK6 => ?_
  refine wp_plain_inv 2 (specs [Is (.bool true), Is (.bool false)]) (specs_stb ⟨Is.stb _, Is.stb _, trivial⟩) (by kernel_rfl) ?_ ?_
  · refine ⟨fun a w hB hfr hdep => Step.plain rfl (dMove (R := Is (.bool true)) rfl (hfr 8 (by kernel_rfl))),
      fun a w hB hfr hdep => Step.plain rfl (Does.run _ (run_notO rfl (hdep 0 34 (by kernel_rfl))) rfl), trivial⟩
  intro u6 hb6
  simp only [List.take, List.drop, FinAll, Act.put, List.setIfInBounds_toArray, List.set_cons_succ, List.set_cons_zero]
  rintro _ rfl _ rfl
  have hO6 := (hO5).trans (hb6.mono (hO5).size)
  have hz__6 := block_below hb6 (lt_of_heap hz__5) hz__5
  have n5_3__6 := block_below hb6 (lt_of_heap n5_3__5) n5_3__5
  have n7_5__6 := block_below hb6 (lt_of_heap n7_5) n7_5
  have hT6 := Tab5.below hT5 hb6
  refine hK6 _ _ ?_
  clear hK6 K6
  refine wp_cond_false rfl ?_
  refine wp_skip ?_
  refine hKO9 _ _ ?_
  clear hKO9 KO9
  have ca := (hO6.cell (p := ⟨gx, off + 31, none⟩) hgx).trans hca
  refine wp_seq_k fun KC hKC => ?_
  have HKC : Hid _ := hKC
  clear hKC
  go_wp2
  refine HKC.out _ _ ?_
  clear HKC KC
  refine wp_seq_k fun KO12 hKO12 => ?_
  refine wp_seq_k fun K7 hK7 => ?_
  refine wp_plain_inv 4 (specs [El (r), Is (.bool (!bb)), Is (.bool bb), Is (.bool true)]) (specs_stb ⟨El.stb _, Is.stb _, Is.stb _, Is.stb _, trivial⟩) (by kernel_rfl) ?_ ?_
  · refine ⟨fun a w hB hfr hdep => Step.plain rfl (dLoadEl q32_5 x32_5 (block_below hB (lt_of_heap n7_5__6) n7_5__6) rfl (hfr 7 (by kernel_rfl)) (fun _ h => h)),
      fun a w hB hfr hdep => Step.plain rfl (Does.call 68 #[(a.eval (.tmp 42))] (by kernel_rfl) (cOddB ho1 w w (hdep 0 42 (by kernel_rfl)))),
      fun a w hB hfr hdep => Step.plain rfl (dMove (R := Is (.bool bb)) rfl (hfr 9 (by kernel_rfl))),
      fun a w hB hfr hdep => Step.plain rfl (Does.run _ (run_neqD rfl (hdep 1 43 (by kernel_rfl)) (hdep 2 44 (by kernel_rfl))) rfl), trivial⟩
  intro u7 hb7
  simp only [List.take, List.drop, FinAll, Act.put, List.setIfInBounds_toArray, List.set_cons_succ, List.set_cons_zero]
  rintro v42_7 h42_7 _ rfl _ rfl _ rfl
  have hO7 := (hO6).trans (hb7.mono (hO6).size)
  have hz__7 := block_below hb7 (lt_of_heap hz__6) hz__6
  have n5_3__7 := block_below hb7 (lt_of_heap n5_3__6) n5_3__6
  have n7_5__7 := block_below hb7 (lt_of_heap n7_5__6) n7_5__6
  have hT7 := Tab5.below hT6 hb7
  refine hK7 _ _ ?_
  clear hK7 K7
  refine wp_cond_true rfl ?_
  have q2 : g2_1 ≠ g7_5 := by have := lt_of_heap hz; have := hb3.size; have := hb4.size; have := hb5.size; have := hb6.size; omega
  have q5 : g5_3 ≠ g7_5 := by have := lt_of_heap n5_3; have := hb3.size; have := hb4.size; have := hb5.size; have := hb6.size; omega
  have n5 : 6 < g7_5 := by have := hT9.size; have := hb3.size; have := hb4.size; have := hb5.size; have := hb6.size; omega
  refine wp_plain_inv 2 (specs [El (r), El (0 - (r))]) (specs_stb ⟨El.stb _, El.stb _, trivial⟩) (by kernel_rfl) ?_ ?_
  · refine ⟨fun a w hB hfr hdep => Step.plain rfl (dLoadEl q32_5 x32_5 (block_below hB (lt_of_heap n7_5__7) n7_5__7) rfl (hfr 7 (by kernel_rfl)) (fun _ h => h)),
      fun a w hB hfr hdep => Step.plain rfl (Does.call 69 #[(a.eval (.tmp 46))] (by kernel_rfl) (cNegEl w w (hdep 0 46 (by kernel_rfl)))), trivial⟩
  intro u8 hb8
  simp only [List.take, List.drop, FinAll, Act.put, List.setIfInBounds_toArray, List.set_cons_succ, List.set_cons_zero]
  rintro v46_8 h46_8 _ ⟨e47_8, q47_8, rfl, x47_8⟩
  have on7_5__7 := block_below hb8 (lt_of_heap n7_5__7) n7_5__7
  refine wpList_store_row rfl 58 (.tmp 7) (.tmp 47) rfl _ (elc e47_8) rfl rfl 58 _ on7_5__7 info26 rfl (elc_one _) ?_
  have n7_8 := setRow_heap _ _ _ (elc e47_8) _ _ on7_5__7
  have hO8 := setRow_below (hO7.trans (hb8.mono (hO7).size)) lwn7_5 (elc e47_8)
  have hz__8 := (setRow_other u8 g7_5 g2_1 (elc e47_8) q2).trans (block_below hb8 (lt_of_heap hz__7) hz__7)
  have n5_3__8 := (setRow_other u8 g7_5 g5_3 (elc e47_8) q5).trans (block_below hb8 (lt_of_heap n5_3__7) n5_3__7)
  have hT8 : Tab5 (u8.setRow g7_5 (elc e47_8)) := hT7.setRow hb8 (n5)
  generalize u8.setRow g7_5 (elc e47_8) = u8_s at hO8 hz__8 n5_3__8 n7_8 hT8 ⊢
  refine hKO12 _ _ ?_
  clear hKO12 KO12
  refine wp_seq_k fun KO14 hKO14 => ?_
  refine wp_seq_k fun K9 hK9 => ?_
  refine wp_plain_inv 4 (specs [El (0 - (r)), Is (.bool (!bb)), Is (.bool bb), Is (.bool true)]) (specs_stb ⟨El.stb _, Is.stb _, Is.stb _, Is.stb _, trivial⟩) (by kernel_rfl) ?_ ?_
  · refine ⟨fun a w hB hfr hdep => Step.plain rfl (dLoadEl q47_8 x47_8 (block_below hB (lt_of_heap n7_8) n7_8) rfl (hfr 7 (by kernel_rfl)) (fun _ h => h)),
      fun a w hB hfr hdep => Step.plain rfl (Does.call 68 #[(a.eval (.tmp 48))] (by kernel_rfl) (cOddB ho2 w w (hdep 0 48 (by kernel_rfl)))),
      fun a w hB hfr hdep => Step.plain rfl (dMove (R := Is (.bool bb)) rfl (hfr 9 (by kernel_rfl))),
      fun a w hB hfr hdep => Step.plain rfl (Does.run _ (run_neqD rfl (hdep 1 49 (by kernel_rfl)) (hdep 2 50 (by kernel_rfl))) rfl), trivial⟩
  intro u9 hb9
  simp only [List.take, List.drop, FinAll, Act.put, List.setIfInBounds_toArray, List.set_cons_succ, List.set_cons_zero]
  rintro v48_9 h48_9 _ rfl _ rfl _ rfl
  have hO9 := (hO8).trans (hb9.mono (hO8).size)
  have hz__9 := block_below hb9 (lt_of_heap hz__8) hz__8
  have n5_3__9 := block_below hb9 (lt_of_heap n5_3__8) n5_3__8
  have n7_8__9 := block_below hb9 (lt_of_heap n7_8) n7_8
  have hT9 := Tab5.below hT8 hb9
  refine hK9 _ _ ?_
  clear hK9 K9
  refine wp_cond_true rfl ?_
  refine wp_seq_k fun K10 hK10 => ?_
  refine wp_plain_inv 1 (specs [Is (.agg (ptc zeroE zeroE zeroE zeroE))]) (specs_stb ⟨Is.stb _, trivial⟩) (by kernel_rfl) ?_ ?_
  · refine ⟨fun a w hB hfr hdep => Step.plain rfl (Does.run _ (bu29z rfl) rfl), trivial⟩
  intro u10 hb10
  simp only [List.take, List.drop, FinAll, Act.put, List.setIfInBounds_toArray, List.set_cons_succ, List.set_cons_zero]
  rintro _ rfl
  have ohz__9 := block_below hb10 (lt_of_heap hz__9) hz__9
  refine wpList_store_row rfl 60 (.tmp 2) (.tmp 52) rfl _ (ptc zeroE zeroE zeroE zeroE) rfl rfl 60 _ ohz__9 info29 rfl (ptc_one _ _ _ _) ?_
  refine wpList_assign rfl rfl rfl ?_
  simp only [Act.put, Act.eval, List.setIfInBounds_toArray, List.set_cons_succ, List.set_cons_zero]
  have n2_10 := setRow_heap _ _ _ (ptc zeroE zeroE zeroE zeroE) _ _ ohz__9
  have hO10 := setRow_below (hO9.trans (hb10.mono (hO9).size)) lwm2_1 (ptc zeroE zeroE zeroE zeroE)
  refine hK10 _ _ ?_
  clear hK10 K10
  refine wp_ret ?_
  simp only [Exit.then]
  refine bodyPost_ret (v := .tuple #[.agg (ptc zeroE zeroE zeroE zeroE), .int .i64 2]) ?_ rfl ⟨_, rfl, hO10, ⟨_, _, rfl, rfl, rfl⟩⟩
  exact results_cell_tmp Tryz.results30 _ _ _ 60 _ (0, 0) _ _ rfl rfl n2_10 Tryz.underlying60 rfl (by first | exact info26 | exact info29 | exact info35 | (rw [(Pt4.cells (by assumption)).1]; exact info29) | (rw [cellsP_size (by assumption)]; exact info29))
end Go.Proofs.YtabgihjffjlfiaaGreatDoor
set_option linter.unusedVariables false
namespace Go.Proofs.YtabgihjffjlfiaaGreatDoor
open Go.RowKit Go.Sort Go.BigFrame
set_option maxRecDepth 100000
set_option maxHeartbeats 2000000
theorem run_lenO {ρ : Operand → Value} {o : Oper} {x : Operand} {a : Option Addr} {len cap : Nat} {w : World} (ho : o.op = .call { callee := .builtin .len, args := #[x], argTypes := #[22] }) (hx : ρ x = .slice a len cap) :
    (execOp ρ o).run Tryz.prog w = .ok (.value (.int .i64 (len : Int))) w := by
  simp [execOp, ho, resolve, invoke, hx, go_sem]
theorem run_neq32 {ρ : Operand → Value} {o : Oper} {x y : Operand} {w : World} {n : Nat} (h : n ≠ 32) (ho : o.op = .binOp .neq 3 x y 3) (hx : ρ x = .int .i64 (n : Int)) (hy : ρ y = .int .i64 32) : (execOp ρ o).run Tryz.prog w = .ok (.value (.bool true)) w := by
  have h' : ((n : Int) != 32) = true := by simp; omega
  simp [execOp, ho, hx, hy, go_sem, h']
theorem e8_ex : ∃ e, valD tab3.reverse = e ∧ 8 * e = pp + 3 := ⟨_, rfl, by decide⟩
theorem cReadLen (ad : Option Addr) (len cap : Nat) (w : World) (h : len ≠ 32) : Ret 30 #[.slice ad len cap] w (Tup2 (Is (.agg (ptc zeroE zeroE zeroE zeroE))) (Is (.int .i64 2))) := by
  unfold Ret
  have hO0 : Below w.heap.size w w := Below.refl _ _
  go_enter Tryz.func30, Tryz.ntmps30
  refine wp_seq_k fun K1 hK1 => ?_
  refine wp_plain_inv 2 (specs [Box w.heap.size (ptc zeroE zeroE zeroE zeroE) 60, Is (.int .i64 0)]) (specs_stb ⟨Box.stb _ _ _, Is.stb _, trivial⟩) (by kernel_rfl) ?_ ?_
  · refine ⟨fun a w hB hfr hdep => Step.plain rfl (dAlloc29 hB.size rfl),
      fun a w hB hfr hdep => Step.plain rfl (dAssign (R := Is (.int .i64 0)) rfl rfl), trivial⟩
  intro u1 hb1
  simp only [List.take, List.drop, FinAll, Act.put, List.setIfInBounds_toArray, List.set_cons_succ, List.set_cons_zero]
  rintro _ ⟨g2_1, rfl, l2_1, m2_1⟩ _ rfl
  have hO1 := (hO0).trans (hb1.mono (hO0).size)
  have lwm2_1 := Nat.le_trans (hO0).size l2_1
  refine hK1 _ _ ?_
  clear hK1 K1
  refine wp_seq_k fun KO hKO => ?_
  refine wp_seq_k fun K2 hK2 => ?_
  refine wp_plain_inv 3 (specs [Is (.slice ad len cap), Is (.int .i64 (len : Int)), Is (.bool true)]) (specs_stb ⟨Is.stb _, Is.stb _, Is.stb _, trivial⟩) (by kernel_rfl) ?_ ?_
  · refine ⟨fun a w hB hfr hdep => Step.plain rfl (dMove (R := Is (.slice ad len cap)) rfl (hfr 0 (by kernel_rfl))),
      fun a w hB hfr hdep => Step.plain rfl (Does.run _ (run_lenO rfl (hdep 0 10 (by kernel_rfl))) rfl),
      fun a w hB hfr hdep => Step.plain rfl (Does.run _ (run_neq32 h rfl (hdep 1 11 (by kernel_rfl)) rfl) rfl), trivial⟩
  intro u2 hb2
  simp only [List.take, List.drop, FinAll, Act.put, List.setIfInBounds_toArray, List.set_cons_succ, List.set_cons_zero]
  rintro _ rfl _ rfl _ rfl
  have hO2 := (hO1).trans (hb2.mono (hO1).size)
  have m2_1__2 := block_below hb2 (lt_of_heap m2_1) m2_1
  refine hK2 _ _ ?_
  clear hK2 K2
  refine wp_cond_true rfl ?_
  refine wp_seq_k fun K3 hK3 => ?_
  refine wp_plain_inv 1 (specs [Is (.agg (ptc zeroE zeroE zeroE zeroE))]) (specs_stb ⟨Is.stb _, trivial⟩) (by kernel_rfl) ?_ ?_
  · refine ⟨fun a w hB hfr hdep => Step.plain rfl (Does.run _ (bu29z rfl) rfl), trivial⟩
  intro u3 hb3
  simp only [List.take, List.drop, FinAll, Act.put, List.setIfInBounds_toArray, List.set_cons_succ, List.set_cons_zero]
  rintro _ rfl
  have om2_1__2 := block_below hb3 (lt_of_heap m2_1__2) m2_1__2
  refine wpList_store_row rfl 60 (.tmp 2) (.tmp 13) rfl _ (ptc zeroE zeroE zeroE zeroE) rfl rfl 60 _ om2_1__2 info29 rfl (ptc_one _ _ _ _) ?_
  refine wpList_assign rfl rfl rfl ?_
  simp only [Act.put, Act.eval, List.setIfInBounds_toArray, List.set_cons_succ, List.set_cons_zero]
  have n2_3 := setRow_heap _ _ _ (ptc zeroE zeroE zeroE zeroE) _ _ om2_1__2
  have hO3 := setRow_below (hO2.trans (hb3.mono (hO2).size)) lwm2_1 (ptc zeroE zeroE zeroE zeroE)
  refine hK3 _ _ ?_
  clear hK3 K3
  refine wp_ret ?_
  simp only [Exit.then]
  refine bodyPost_ret (v := .tuple #[.agg (ptc zeroE zeroE zeroE zeroE), .int .i64 2]) ?_ rfl ⟨_, rfl, hO3, ⟨_, _, rfl, rfl, rfl⟩⟩
  exact results_cell_tmp Tryz.results30 _ _ _ 60 _ (0, 0) _ _ rfl rfl n2_3 Tryz.underlying60 rfl (by first | exact info26 | exact info29 | exact info35 | (rw [(Pt4.cells (by assumption)).1]; exact info29) | (rw [cellsP_size (by assumption)]; exact info29))
theorem bit_of {c n : Nat} (hc : c < 256) (h : n / t255 = c / 128) : decide (128 ≤ c) = decide (n / t255 = 1) := by
  rw [decide_eq_decide, h]; omega
theorem odd_same {x b : Nat} (h : x % 2 = b) : decide (x % 2 = 1) = decide (b = 1) := by rw [h]
theorem odd_diff {x b : Nat} (hb : b < 2) (h : x % 2 ≠ b) : decide (x % 2 = 1) = !decide (b = 1) := by
  by_cases h1 : b = 1
  · rw [decide_eq_true h1, decide_eq_false (by omega)]; rfl
  · rw [decide_eq_false h1, decide_eq_true (by omega)]; rfl
theorem cReadPt {v : Value} {l : List Nat} {p : Pt} (w : World) (hT : Tab5 w) (h : Bts l v w) (hl : l.length = 32) (hd : Dig l) (hp : p.enc = valD l) : Ret 30 #[v] w (Tup2 (PtV p) (Is (.int .i64 0))) := by
  obtain ⟨a, cap, rfl, hc1, hc2, hv⟩ := id h
  obtain ⟨gx, off, rfl, hb⟩ := hv (by omega)
  rw [hl] at h ⊢
  obtain ⟨e, he, he8⟩ := e8_ex
  obtain ⟨q1, q2, q3⟩ := high_bit hl hd
  have h3 := hd 31
  have hcell := hb 31 (by omega)
  obtain ⟨r1, r2, r3, r4⟩ := pt_root he8 hp
  have hbit := bit_of h3 q1
  have hn2 : valD l / t255 < 2 := by rw [q1]; omega
  rw [← q2] at r1 r2 r3 r4
  rcases r4 with ⟨s1, s2⟩ | ⟨s1, s2, s3⟩
  · exact readCC w hT he h hl rfl h3 (andNot128 _ h3) hbit (by rw [List.length_set]; exact hl) (hd.set (by omega)) (block_lt_of_cell hcell) hcell rfl r1 rfl r2 (odd_same s1) s2 r3
  · exact readCD w hT he h hl rfl h3 (andNot128 _ h3) hbit (by rw [List.length_set]; exact hl) (hd.set (by omega)) (block_lt_of_cell hcell) hcell rfl r1 rfl r2 (odd_diff hn2 s1) (odd_same s3) s2 r3
theorem cReadErr {v : Value} {l : List Nat} (w : World) (hT : Tab5 w) (h : Bts l v w) (hl : l.length = 32) (hd : Dig l) (hno : ¬ ∃ p : Pt, p.enc = valD l) : Ret 30 #[v] w (Tup2 (Is (.agg (ptc zeroE zeroE zeroE zeroE))) (Is (.int .i64 2))) := by
  obtain ⟨a, cap, rfl, hc1, hc2, hv⟩ := id h
  obtain ⟨gx, off, rfl, hb⟩ := hv (by omega)
  rw [hl] at h ⊢
  obtain ⟨e, he, he8⟩ := e8_ex
  obtain ⟨q1, q2, q3⟩ := high_bit hl hd
  have h3 := hd 31
  have hcell := hb 31 (by omega)
  have hbit := bit_of h3 q1
  have hn2 : valD l / t255 < 2 := by rw [q1]; omega
  by_cases c1 : valD l % t255 < pp
  · by_cases c2 : rootOf e (av (fe (valD l % t255))) * rootOf e (av (fe (valD l % t255))) = av (fe (valD l % t255))
    · obtain ⟨s1, s2⟩ := no_root he8 q3 hno c1 c2
      rw [← q2] at c1 c2 s1 s2
      exact readCE w hT he h hl rfl h3 (andNot128 _ h3) hbit (by rw [List.length_set]; exact hl) (hd.set (by omega)) (block_lt_of_cell hcell) hcell rfl c1 rfl c2 (odd_diff hn2 s1) (odd_diff hn2 s2)
    · rw [← q2] at c1 c2
      exact readCB w hT he h hl rfl h3 (andNot128 _ h3) hbit (by rw [List.length_set]; exact hl) (hd.set (by omega)) (block_lt_of_cell hcell) hcell rfl c1 rfl c2
  · rw [← q2] at c1
    exact readCA w hT he h hl rfl h3 (andNot128 _ h3) hbit (by rw [List.length_set]; exact hl) (hd.set (by omega)) (block_lt_of_cell hcell) hcell c1
end Go.Proofs.YtabgihjffjlfiaaGreatDoor
set_option linter.unusedVariables false
namespace Go.Proofs.YtabgihjffjlfiaaGreatDoor
open Go.RowKit Go.Sort Go.BigFrame
set_option maxRecDepth 100000
set_option maxHeartbeats 2000000
theorem zeros_size (n : Nat) : (Builtin.zeroCells (Value.int .u8 0).cells n).size = n := by simp [Builtin.zeroCells, Value.cells]
theorem grow34 (n : Nat) (w : World) (h0 : 0 < n) (hn : n ≤ 100000000000000) :
    Calls Tryz.prog 41 #[.slice none 0 0, .int .i64 n] w fun e w' => ∃ v, e = .returned v ∧ Below w.heap.size w w' ∧ w'.ownsRow w.heap.size 5 1 v 0 [] := by
  obtain ⟨i0, hi, hz0, hz1, hz2⟩ := info5
  have h1 : ¬ ((n : Int) < 0) := by omega
  have h3 : wrap64 ((n : Int) - 0) = (n : Int) := by unfold wrap64; omega
  have h4 : (n : Int) > 0 := by omega
  have hold : (Builtin.firstCells i0.size 0 (.slice none 0 0)).run Tryz.prog w.drew = .ok (([] : List Value).toArray) w.drew := by kernel_rfl
  have hrz : ∀ ty, (Builtin.append_ #[22, 3] ty #[.slice none 0 0, .int .i64 (n : Int)]).run Tryz.prog w =
      .ok (.slice (some ⟨w.heap.size, 0, none⟩) (0 + n) (grownCap w (0 + n) 0 5)) (w.drew.alloc (.cells (([] : List Value).toArray ++ Builtin.zeroCells (Value.int .u8 0).cells n ++ Builtin.zeroCells (Value.int .u8 0).cells (grownCap w (0 + n) 0 5 - (0 + n))) 5)) := fun ty =>
    Lib.run_append_grow_zeros w 22 3 ty 5 i0 (.int .u8 0) .i64 .i64 Tryz.underlying22 Tryz.underlying3 hi hz0 none 0 0 [] hold n h0 (by omega) (by omega) (by omega) (by rw [hz2]; omega)
      (by rw [hz2]; exact growslice_fits (by omega) (by omega))
  have hGn : 0 + n ≤ grownCap w (0 + n) 0 5 := grownCap_ge w _ _ _
  obtain ⟨G, hG⟩ : ∃ G, G = grownCap w (0 + n) 0 5 := ⟨_, rfl⟩
  rw [← hG] at hrz hGn
  have hG63 : G ≤ maxLen := by
    have := grownCap_le_maxLen w (0 + n) 0 5 (by unfold maxLen; omega)
    rwa [← hG] at this
  have hG64 : G ≤ 9223372036854775807 := by unfold maxLen at hG63; omega
  have HB : Below w.heap.size w (w.drew.alloc (.cells (([] : List Value).toArray ++ Builtin.zeroCells (Value.int .u8 0).cells n ++ Builtin.zeroCells (Value.int .u8 0).cells (G - (0 + n))) 5)) := ((Below.refl _ _).drew).alloc (Nat.le_refl _) _
  have HO : (w.drew.alloc (.cells (([] : List Value).toArray ++ Builtin.zeroCells (Value.int .u8 0).cells n ++ Builtin.zeroCells (Value.int .u8 0).cells (G - (0 + n))) 5)).ownsRow w.heap.size 5 1 (.slice (some ⟨w.heap.size, 0, none⟩) 0 G) 0 [] :=
    ⟨by simp, .inr ⟨w.heap.size, G, _, rfl, Nat.le_refl _, heap_alloc_new _ _, Nat.zero_le _, hG63, by rw [Array.size_append, Array.size_append, zeros_size, zeros_size]; simp; omega, by simp⟩⟩
  clear hold hG
  rw [Nat.zero_add] at hrz HB HO
  rw [Nat.zero_add] at hGn
  generalize w.drew.alloc (.cells (([] : List Value).toArray ++ Builtin.zeroCells (Value.int .u8 0).cells n ++ Builtin.zeroCells (Value.int .u8 0).cells (G - n)) 5) = w1 at hrz HB HO
  go_enter Tryz.func41, Tryz.ntmps41
  go_wp2_with (at_builtin; refine Lib.wpList_append_run _ rfl _ _ _ _ rfl _ _ rfl rfl _ _ (hrz _) ?_)
  all_goals (go_ret; exact ⟨_, rfl, HB, HO⟩)
end Go.Proofs.YtabgihjffjlfiaaGreatDoor
set_option linter.unusedVariables false
namespace Go.Proofs.YtabgihjffjlfiaaGreatDoor
open Go.RowKit Go.Sort Go.BigFrame
set_option maxRecDepth 100000
set_option maxHeartbeats 2000000
theorem wpList_append_any (w : World) {ops : Array Oper} {rest : List Oper} {o : Oper} {a : Act} {Q : Exit → Act → World → Prop} (hgd : o.guard = none) (s x : Operand)
    (ho : o.op = .call { callee := .builtin .append, args := #[s, x], argTypes := #[22, 22] }) (v : Value) (n : Nat) (xs : List Nat) (hs : a.eval s = v) (ad : Option Addr) (len cap : Nat) (bs : List Nat) (hx : a.eval x = .slice ad len cap)
    (base : Nat) (hown : w.ownsRow base 5 1 v n (bv xs)) (hlen : bs.length = len) (hv : View w ad bs) (hbase : base ≤ w.heap.size) (hb : n + len ≤ 100000000000000)
    (h : ∀ v' w', w'.ownsRow base 5 1 v' (n + len) (bv (xs ++ bs)) → Below base w w' → wpList Tryz.prog ops Q rest (a.put o.dst v') w') : wpList Tryz.prog ops Q (o :: rest) a w := by
  obtain ⟨i0, hi, hz0, hz1, hz2⟩ := info5
  cases ad with
  | some p =>
    refine wpList_append_own w hgd s x 22 ho base 5 i0 (.int .u8 0) 1 1 Tryz.underlying22 hi hz0 hz1 hz2 rfl (by decide) v n (bv xs) hs hown p len cap (bv bs) hx (by simp [bv, hlen]) (news_view hv) bv_one (by unfold maxLen; omega) (by omega) hbase ?_
    intro v' w' h1 h2 _
    refine h v' w' ?_ ((Below.refl _ _).grown h2 hbase (fun j hj => (hown.lt j hj).1))
    rw [show bv (xs ++ bs) = bv xs ++ bv bs by simp [bv]]
    exact h1
  | none =>
    have hb0 : bs = [] := by
      by_cases hp : 0 < bs.length
      · obtain ⟨b, off, e, _⟩ := hv hp; cases e
      · exact List.eq_nil_of_length_eq_zero (by omega)
    subst hb0
    obtain rfl : len = 0 := hlen.symm
    have hr : (Builtin.append_ #[22, 22] o.type #[v, .slice none 0 cap]).run Tryz.prog w = .ok v w := by
      rcases hown.2 with ⟨h1, h2⟩ | ⟨g, c, cur, h1, h2, h3, h4, h5, h6, h7⟩
      · rw [h1]; kernel_rfl
      · rw [h1]
        have e : n + 0 ≤ c := by omega
        have e2 : ((Go.sizeOf 5).run Tryz.prog w) = .ok 1 w := by kernel_rfl
        have e3 : ((Go.underlying 22).run Tryz.prog w) = .ok (.slice 5) w := by kernel_rfl
        simp [Builtin.append_, e3, e2, h4, Builtin.lenOf, Builtin.firstCells, storeCells]
    refine wpList_plain hgd fun K hK => ?_
    unfold Oper.wp execOp
    simp only [ho, resolve, invoke, builtin, Sem.run_bind, Sem.run_pure, Result.andThen_ok, List.map_toArray, List.map_cons, List.map_nil, hs, hx, hr]
    refine hK _ _ (h _ _ ?_ (Below.refl _ _))
    rw [List.append_nil]; exact hown
def catL (L : Nat → List Nat) : Nat → List Nat
  | 0 => []
  | k + 1 => catL L k ++ L k
end Go.Proofs.YtabgihjffjlfiaaGreatDoor
set_option linter.unusedVariables false
namespace Go.Proofs.YtabgihjffjlfiaaGreatDoor
open Go.RowKit Go.Sort Go.BigFrame
set_option maxRecDepth 100000
set_option maxHeartbeats 2000000
theorem catL_len (L : Nat → List Nat) (k : Nat) : (catL L (k + 1)).length = (catL L k).length + (L k).length := by simp [catL]
theorem catL_mono (L : Nat → List Nat) {j k : Nat} (h : j ≤ k) : (catL L j).length ≤ (catL L k).length := by
  induction h with
  | refl => exact Nat.le_refl _
  | step _ ih => rw [catL_len]; omega
theorem concat17 (g n : Nat) (A : Nat → Option Addr) (N C S : Nat → Nat) (L : Nat → List Nat) (w : World) (hn : n ≤ 10) (hN : ∀ k, Hid ((L k).length = N k)) (hS : ∀ k, Hid ((catL L k).length = S k))
    (hcell : ∀ k, k < n → w.cell? ⟨g, k, none⟩ = some (.slice (A k) (N k) (C k))) (hC : ∀ k, k < n → N k ≤ C k ∧ C k ≤ 9223372036854775807) (hl : S n ≤ 100000) (h0 : 0 < S n) (hv : ∀ k, k < n → View w (A k) (L k)) :
    Calls Tryz.prog 15 #[.slice (some ⟨g, 0, none⟩) n n] w fun e w' => ∃ v, e = .returned v ∧ Below w.heap.size w w' ∧ OwnC w.heap.size (catL L n) v w' := by
  have hS1 : ∀ k, S (k + 1) = S k + N k := fun k => by rw [← (hS (k + 1)).out, catL_len, (hS k).out, (hN k).out]
  have hSn : ∀ k, k ≤ n → S k ≤ 100000 := fun k hk => by
    have := catL_mono L hk
    rw [(hS k).out, (hS n).out] at this; omega
  have hS0 : S 0 = 0 := by rw [← (hS 0).out]; rfl
  have HS1 : Hid (∀ k, S (k + 1) = S k + N k) := hS1
  have HS0 : Hid (S 0 = 0) := hS0
  clear hS1 hS0
  go_enter Tryz.func15, Tryz.ntmps15
  go_wp2_with fail
  go_loop [3, 11] (fun s i => ∃ k : Nat, k ≤ n ∧ i = .int .i64 k ∧ s = .int .i64 (S k : Nat)) (fun _ i => n - (intOf i).toNat)
  case atStart => exact ⟨0, by omega, rfl, by rw [HS0.out]; rfl⟩
  case round =>
    obtain ⟨k, hk, rfl, rfl⟩ := hrel
    by_cases hlt : k < n
    · have hc := hcell k hlt
      have hs1 := HS1.out k
      have hs2 := hSn (k + 1) (by omega)
      have hs3 : S k ≤ 100000 := hSn k hk
      have hs4 : N k ≤ 100000 := by omega
      have hneg : ¬ ((S k : Int) + (N k : Int) < 0) := by omega
      have HE : Hid (S (k + 1) = S k + N k) := hs1
      clear hs1
      go_wp2
      go_round
      case rel => exact ⟨k + 1, by omega, by go_num, by rw [HE.out]; go_num⟩
      case measure => simp [intOf]; omega
    · obtain rfl : k = n := by omega
      have hG := grow34 (S k) w h0 (by omega)
      go_wp2_with fail
      refine hG.mono ?_
      rintro e w1 ⟨v1, rfl, hB1, hO1⟩
      have hw := hv
      go_wp2_with fail
      go_loopw [6, 27] (fun v i wr => ∃ j : Nat, j ≤ k ∧ i = .int .i64 j ∧ Below w.heap.size w wr ∧ wr.ownsRow w.heap.size 5 1 v (S j) (bv (catL L j))) (fun _ i _ => k - (intOf i).toNat)
      case atStart => exact ⟨0, by omega, rfl, hB1, by rw [HS0.out]; exact hO1⟩
      case round =>
        obtain ⟨j, hj, rfl, hB, hown⟩ := hrel
        by_cases hlt2 : j < k
        · have hc : wr.cell? ⟨g, j, none⟩ = some (.slice (A j) (N j) (C j)) := (hB.cell (p := ⟨g, j, none⟩) (block_lt_of_cell (hcell j hlt2))).trans (hcell j hlt2)
          have hvv := (hv j hlt2).below hB
          have hs1 := HS1.out j
          have hs2 := hSn (j + 1) (by omega)
          have hs3 : S j + N j ≤ 100000000000000 := by omega
          have HE : Hid (S (j + 1) = S j + N j) := hs1
          clear hs1
          go_wp2_with (at_builtin; refine wpList_append_any _ rfl (.tmp 31) (.tmp 32) rfl u6 (S j) (catL L j) rfl (A j) (N j) (C j) (L j) rfl w.heap.size hown (hN j).out hvv hB.size hs3 ?_; intro v2 w2 hown2 hB2)
          have hB3 : Below w.heap.size w w2 := hB.trans hB2
          have hO3 : w2.ownsRow w.heap.size 5 1 v2 (S (j + 1)) (bv (catL L (j + 1))) := by rw [HE.out]; exact hown2
          clear hown2 hB2
          go_roundw
          case rel => first | exact ⟨j + 1, by omega, by go_num, hB3, hO3⟩ | ((repeat apply Exists.intro); exact ⟨⟨j + 1, by omega, by go_num, hB3, hO3⟩, rfl⟩)
          case measure => simp [intOf]; omega
        · obtain rfl : j = k := by omega
          have hC3 := own_C (hS j).out h0 hown
          clear hown
          go_wp2_with fail
          go_ret
          exact ⟨_, rfl, hB, hC3⟩
end Go.Proofs.YtabgihjffjlfiaaGreatDoor
set_option linter.unusedVariables false
namespace Go.Proofs.YtabgihjffjlfiaaGreatDoor
namespace EN
/-- 2^252 + 27742317777372353535851937790883648493. -/
def LL : Nat := 7237005577332262213973186563042994240857116359379907606001950938285454250989
def exc : Int := 27742317777372353535851937790883648493
theorem edd (a b c : Int) (h : 0 ≤ b) : a / b / c = a / (b * c) := by first | exact Int.ediv_ediv_of_nonneg h | exact Int.ediv_ediv h | rw [Int.ediv_ediv_eq_ediv_mul _ h]
def valW : List Int → Int
  | [] => 0
  | d :: l => d + 268435456 * valW l
/-- n digits, and what is left as the last one. -/
def norm : Nat → Int → List Int
  | 0, v => [v]
  | n + 1, v => v % 268435456 :: norm n (v / 268435456)
theorem norm_len : ∀ n v, (norm n v).length = n + 1
  | 0, _ => rfl
  | n + 1, v => by simp [norm, norm_len n]
theorem valW_norm : ∀ n v, valW (norm n v) = v
  | 0, v => by simp [norm, valW]
  | n + 1, v => by rw [norm, valW, valW_norm n]; omega
theorem valW_append : ∀ (a b : List Int), valW (a ++ b) = valW a + 268435456 ^ a.length * valW b
  | [], b => by simp [valW]
  | d :: a, b => by
    simp only [List.cons_append, valW, List.length_cons, Int.pow_succ, valW_append a b]
    rw [Int.mul_comm (268435456 ^ a.length) 268435456, Int.mul_assoc, Int.mul_add]
    omega
theorem valW_set : ∀ (l : List Int) (k : Nat) (x : Int), k < l.length → valW (l.set k x) = valW l + 268435456 ^ k * (x - l.getD k 0)
  | [], _, _, h => by simp at h
  | d :: l, 0, x, _ => by simp [valW]; omega
  | d :: l, k + 1, x, h => by
    have := valW_set l k x (by simpa using h)
    simp only [List.set_cons_succ, valW, List.getD_cons_succ, Int.pow_succ, this]
    rw [Int.mul_comm (268435456 ^ k) 268435456, Int.mul_assoc, Int.mul_add]
    omega
theorem valW_rep : ∀ n, valW (List.replicate n 0) = 0
  | 0 => rfl
  | n + 1 => by simp [List.replicate_succ, valW, valW_rep n]
theorem takeW_succ (l : List Int) (k : Nat) (h : k < l.length) : l.take (k + 1) = l.take k ++ [l.getD k 0] := by
  rw [List.take_succ_eq_append_getElem h]; simp [h]
theorem valW_take_succ (l : List Int) (k : Nat) : valW (l.take (k + 1)) = valW (l.take k) + 268435456 ^ k * l.getD k 0 := by
  by_cases h : k < l.length
  · rw [takeW_succ l k h, valW_append, List.length_take, show min k l.length = k by omega]; simp [valW]
  · rw [List.take_of_length_le (by omega), List.take_of_length_le (by omega), List.getD_eq_getElem?_getD, List.getElem?_eq_none (by omega)]; simp
theorem pos28 (k : Nat) : (0 : Int) < 268435456 ^ k := Int.pow_pos (by decide)
theorem norm_get_lt : ∀ n v j, j < n → (norm n v).getD j 0 = v / 268435456 ^ j % 268435456
  | 0, _, _, h => by omega
  | n + 1, v, 0, _ => by simp [norm]
  | n + 1, v, j + 1, h => by
    have := norm_get_lt n (v / 268435456) j (by omega)
    simp only [norm, List.getD_cons_succ, this]
    rw [edd _ _ _ (by decide), Int.pow_succ, Int.mul_comm]
theorem norm_get_top : ∀ n v, (norm n v).getD n 0 = v / 268435456 ^ n
  | 0, v => by simp [norm]
  | n + 1, v => by
    simp only [norm, List.getD_cons_succ, norm_get_top n]
    rw [edd _ _ _ (by decide), Int.pow_succ, Int.mul_comm]
theorem norm_split : ∀ n v, norm (n + 1) v = (norm n v).set n (v / 268435456 ^ n % 268435456) ++ [v / 268435456 ^ n / 268435456]
  | 0, v => by simp [norm]
  | n + 1, v => by
    rw [norm, norm_split n, norm]
    simp only [List.set_cons_succ, List.cons_append]
    rw [edd _ _ _ (by decide : (0:Int) ≤ 268435456), Int.pow_succ, Int.mul_comm]
/-- the value above a sum of low digits and one more -/
theorem norm_add (n : Nat) (v d : Int) : (norm n v).set n ((norm n v).getD n 0 + d) = norm n (v + 268435456 ^ n * d) := by
  induction n generalizing v with
  | zero => simp [norm]
  | succ n ih =>
    simp only [norm, List.set_cons_succ, List.getD_cons_succ, ih]
    have e : v + 268435456 ^ (n + 1) * d = v + 268435456 * (268435456 ^ n * d) := by rw [Int.pow_succ, Int.mul_comm (268435456 ^ n), Int.mul_assoc]
    rw [e]
    congr 1
    · omega
    · congr 1; omega
/-- What a row is behind k rounds of settling. -/
def stl (l : List Int) (k : Nat) : List Int := norm k (valW (l.take (k + 1))) ++ l.drop (k + 1)
theorem stl_len (l : List Int) (k : Nat) (h : k < l.length) : (stl l k).length = l.length := by simp [stl, norm_len]; omega
theorem stl_zero (l : List Int) (h : 0 < l.length) : stl l 0 = l := by
  cases l with
  | nil => simp at h
  | cons d l => simp [stl, norm, valW]
def topW (l : List Int) (k : Nat) : Int := valW (l.take (k + 1)) / 268435456 ^ k
theorem topW_zero (l : List Int) : topW l 0 = l.getD 0 0 := by
  have := valW_take_succ l 0
  simp [valW] at this
  simp [topW, this]
theorem topW_succ (l : List Int) (k : Nat) : topW l (k + 1) = l.getD (k + 1) 0 + topW l k / 268435456 := by
  unfold topW
  rw [valW_take_succ l (k + 1), Int.add_mul_ediv_left _ _ (by have := pos28 (k + 1); omega), edd _ _ _ (Int.le_of_lt (pos28 k)), Int.pow_succ]
  omega
theorem topW_bound {l : List Int} {B : Int} (hB : 268435456 ≤ B) (h : ∀ j, -B ≤ l.getD j 0 ∧ l.getD j 0 ≤ B) : ∀ k, -(2 * B) ≤ topW l k ∧ topW l k ≤ 2 * B ∧ -(B + B / 134217728 + 1) ≤ topW l k ∧ topW l k ≤ B + B / 134217728 + 1
  | 0 => by rw [topW_zero]; have := h 0; omega
  | k + 1 => by
    have h1 := topW_bound hB h k
    have h2 := h (k + 1)
    rw [topW_succ]
    omega
theorem stl_getk (l : List Int) (k : Nat) (h : k < l.length) : (stl l k).getD k 0 = topW l k := by
  have hl : k < (norm k (valW (l.take (k + 1)))).length := by rw [norm_len]; omega
  unfold stl topW
  rw [List.getD_eq_getElem?_getD, List.getElem?_append_left hl, ← List.getD_eq_getElem?_getD, norm_get_top]
theorem stl_getk1 (l : List Int) (k : Nat) : (stl l k).getD (k + 1) 0 = l.getD (k + 1) 0 := by
  unfold stl
  rw [List.getD_eq_getElem?_getD, List.getElem?_append_right (by rw [norm_len]; omega), norm_len]
  simp
theorem stl_step (l : List Int) (k : Nat) (h : k + 1 < l.length) : ((stl l k).set (k + 1) (l.getD (k + 1) 0 + topW l k / 268435456)).set k (topW l k % 268435456) = stl l (k + 1) := by
  have hd : l.drop (k + 1) = l.getD (k + 1) 0 :: l.drop (k + 2) := by
    rw [List.drop_eq_getElem_cons h]; simp [h]
  have hn : (norm k (valW (l.take (k + 1)))).length = k + 1 := norm_len _ _
  have e1 : (stl l k).set (k + 1) (l.getD (k + 1) 0 + topW l k / 268435456) = norm k (valW (l.take (k + 1))) ++ (l.getD (k + 1) 0 + topW l k / 268435456) :: l.drop (k + 2) := by
    unfold stl
    rw [List.set_append_right _ _ (by omega), hn, hd]; simp
  rw [e1, List.set_append_left _ _ (by omega)]
  have e2 := norm_split k (valW (l.take (k + 1)))
  have e3 := norm_add (k + 1) (valW (l.take (k + 1))) (l.getD (k + 1) 0)
  unfold stl
  rw [valW_take_succ l (k + 1), ← e3, norm_get_top, e2, List.set_append_right _ _ (by simp [norm_len]), List.length_set, norm_len]
  simp only [Nat.sub_self, List.set_cons_zero, List.append_assoc, List.cons_append, List.nil_append]
  unfold topW
  rw [edd _ _ _ (Int.le_of_lt (pos28 k)), ← Int.pow_succ, Int.add_comm]
/-- A row of 19 digits of a number. -/
def row (top : Nat) (N : Int) : List Int := norm top N ++ List.replicate (18 - top) 0
theorem row_len {top : Nat} (h : top ≤ 18) (N : Int) : (row top N).length = 19 := by simp [row, norm_len]; omega
theorem valW_row (top : Nat) (N : Int) : valW (row top N) = N := by simp [row, valW_append, valW_norm, valW_rep]
theorem row18 (N : Int) : row 18 N = norm 18 N := by simp [row]
theorem row_get_lt {top j : Nat} (N : Int) (h : j < top) : (row top N).getD j 0 = N / 268435456 ^ j % 268435456 := by
  unfold row
  rw [List.getD_eq_getElem?_getD, List.getElem?_append_left (by rw [norm_len]; omega), ← List.getD_eq_getElem?_getD, norm_get_lt _ _ _ h]
theorem row_get_top (top : Nat) (N : Int) : (row top N).getD top 0 = N / 268435456 ^ top := by
  unfold row
  rw [List.getD_eq_getElem?_getD, List.getElem?_append_left (by rw [norm_len]; omega), ← List.getD_eq_getElem?_getD, norm_get_top]
theorem row_get_gt {top j : Nat} (N : Int) (h : top < j) : (row top N).getD j 0 = 0 := by
  unfold row
  rw [List.getD_eq_getElem?_getD, List.getElem?_append_right (by rw [norm_len]; omega), norm_len, List.getElem?_replicate]
  split <;> rfl
theorem stl18 {l : List Int} (h : l.length = 19) : stl l 18 = row 18 (valW l) := by
  unfold stl
  rw [row18, List.take_of_length_le (by omega), List.drop_of_length_le (by omega)]; simp
/-- A row whose digits behind top are 0, settled. -/
theorem stl_row {l : List Int} {top : Nat} (h : l.length = 19) (ht : top ≤ 18) (hz : ∀ j, top < j → l.getD j 0 = 0) : stl l top = row top (valW l) := by
  have hd : l.drop (top + 1) = List.replicate (18 - top) 0 := by
    apply List.ext_getElem
    · simp; omega
    · intro i h1 h2
      have h3 : top + 1 + i < l.length := by simp at h1; omega
      have := hz (top + 1 + i) (by omega)
      simp [h3] at this
      simp [this]
  have hv : valW l = valW (l.take (top + 1)) := by
    have := valW_append (l.take (top + 1)) (l.drop (top + 1))
    rw [List.take_append_drop, hd, valW_rep] at this
    omega
  unfold stl row
  rw [hd, ← hv]
end EN
end Go.Proofs.YtabgihjffjlfiaaGreatDoor
set_option linter.unusedVariables false
namespace Go.Proofs.YtabgihjffjlfiaaGreatDoor
namespace EN
open Go.RowKit Go.Sort Go.BigFrame
set_option maxRecDepth 100000
set_option maxHeartbeats 2000000
def zints (l : List Int) : Array Value := (l.map fun x => Value.int .i64 x).toArray
theorem zints_get (l : List Int) (j : Nat) (h : j < l.length) : (zints l)[j]? = some (.int .i64 (l.getD j 0)) := by simp [zints, h]
theorem zints_set (l : List Int) (j : Nat) (v : Int) : (zints l).setIfInBounds j (.int .i64 v) = zints (l.set j v) := by simp [zints, List.map_set]
theorem i64_and28 (n : Int) : bits .and .i64 n 268435455 = n % 268435456 := by
  have h127 : (BitVec.ofInt 64 268435455).toNat = 2 ^ 28 - 1 := by decide
  have key : (BitVec.ofInt 64 n &&& BitVec.ofInt 64 268435455).toNat = (n % ((2 ^ 64 : Nat) : Int)).toNat % 2 ^ 28 := by
    rw [BitVec.toNat_and, BitVec.toNat_ofInt, h127, Nat.and_two_pow_sub_one_eq_mod]
  show IntKind.i64.wrap ((BitVec.ofInt 64 n &&& BitVec.ofInt 64 268435455).toNat : Nat) = n % 268435456
  rw [key, IntKind.wrap_i64]
  omega
/-- Nothing but block g has changed, and no block was laid. -/
structure Frm (g : Nat) (w w' : World) : Prop where
  os : w'.os = w.os
  tape : w'.tape = w.tape
  output : w'.output = w.output
  size : w'.heap.size = w.heap.size
  block : ∀ k, k ≠ g → w'.heap[k]? = w.heap[k]?
theorem Frm.refl (g : Nat) (w : World) : Frm g w w := ⟨rfl, rfl, rfl, rfl, fun _ _ => rfl⟩
theorem Frm.trans {g : Nat} {a b c : World} (h : Frm g a b) (h' : Frm g b c) : Frm g a c :=
  ⟨h'.os.trans h.os, h'.tape.trans h.tape, h'.output.trans h.output, h'.size.trans h.size, fun k hk => (h'.block k hk).trans (h.block k hk)⟩
theorem Frm.below {g B : Nat} {w0 w w' : World} (h : Frm g w w') (hb : Below B w0 w) (hg : B ≤ g) : Below B w0 w' :=
  ⟨h.os.trans hb.os, h.tape.trans hb.tape, h.output.trans hb.output, by rw [h.size]; exact hb.size, fun k hk => (h.block k (by omega)).trans (hb.block k hk)⟩
theorem Frm.set {g : Nat} {w w' : World} (h : Frm g w w') (j : Nat) (v : Value) : Frm g w (w'.setCell ⟨g, j, none⟩ v) := by
  have hb : Below g w' (w'.setCell ⟨g, j, none⟩ v) := (Below.refl g w').setCell (p := ⟨g, j, none⟩) (Nat.le_refl g) v
  refine h.trans ⟨hb.os, hb.tape, hb.output, by simp, fun k hk => ?_⟩
  exact heap_setCell_other _ _ _ _ (by simpa using hk)
theorem Frm.drew {g : Nat} {w w' : World} (h : Frm g w w') : Frm g w w'.drew := ⟨h.os, h.tape, h.output, h.size, h.block⟩
def WRow (w wr : World) (g : Nat) (l : List Int) : Prop := Frm g w wr ∧ wr.heap[g]? = some (.cells (zints l) 69 (0, 0))
theorem cell_z {w : World} {g t : Nat} {l : List Int} (h : w.heap[g]? = some (.cells (zints l) t (0, 0))) (j : Nat) (hj : j < l.length) : w.cell? ⟨g, j, none⟩ = some (.int .i64 (l.getD j 0)) := by
  rw [cell_of_row w g j _ t _ h]; exact zints_get l j hj
theorem WRow.at {w wr : World} {g : Nat} {l : List Int} (h : WRow w wr g l) (k : Nat) (hk : k < l.length) : wr.cell? ⟨g, k, none⟩ = some (.int .i64 (l.getD k 0)) := cell_z h.2 k hk
theorem WRow.free {w wr : World} {g : Nat} {l : List Int} (h : WRow w wr g l) (k : Nat) : wr.frozen? ⟨g, k, none⟩ = false := frozen_of_row _ g k _ 69 h.2
theorem WRow.set {w wr : World} {g : Nat} {l : List Int} (h : WRow w wr g l) (k : Nat) (v : Int) : WRow w (wr.setCell ⟨g, k, none⟩ (.int .i64 v)) g (l.set k v) :=
  ⟨h.1.set _ _, by rw [heap_setCell_same _ g k _ 69 _ h.2, zints_set]⟩
theorem WRow.drew {w wr : World} {g : Nat} {l : List Int} (h : WRow w wr g l) : WRow w wr.drew g l := ⟨h.1.drew, h.2⟩
theorem settle30 (g top : Nat) (l : List Int) (w : World) (hl : Hid (l.length = 19)) (ht : top ≤ 18) (hb : ∀ j, -9000000000000000000 ≤ l.getD j 0 ∧ l.getD j 0 ≤ 9000000000000000000) (hg : w.heap[g]? = some (.cells (zints l) 69 (0, 0))) :
    Calls Tryz.prog 80 #[.pointer (some ⟨g, 0, none⟩), .int .i64 top] w fun e w' => e = .returned (.tuple #[]) ∧ WRow w w' g (stl l top) := by
  have hR0 : WRow w w g (stl l 0) := ⟨Frm.refl _ _, by rw [stl_zero l (by rw [hl.out]; omega)]; exact hg⟩
  have hq := topW_bound (B := 9000000000000000000) (by omega) hb
  clear hg
  go_enter Tryz.func80, Tryz.ntmps80
  go_wp2_with fail
  go_loopw [6] (fun i wr => ∃ k : Nat, k ≤ top ∧ i = .int .i64 k ∧ WRow w wr g (stl l k)) (fun i _ => top - (intOf i).toNat)
  case atStart => exact ⟨0, by omega, rfl, hR0⟩
  case round =>
    obtain ⟨k, hk, rfl, hR⟩ := hrel
    clear hR0
    by_cases hlt : k < top
    · have hlen := stl_len l k (by rw [hl.out]; omega)
      rw [hl.out] at hlen
      have c0 := hR.at k (by omega)
      have c1 := hR.at (k + 1) (by omega)
      have f0 := hR.free k
      have f1 := hR.free (k + 1)
      rw [stl_getk l k (by rw [hl.out]; omega)] at c0
      rw [stl_getk1] at c1
      have hstep := stl_step l k (by rw [hl.out]; omega)
      have hqk := hq k
      have hlk := hb (k + 1)
      obtain ⟨q, hqe⟩ : ∃ q, q = topW l k := ⟨_, rfl⟩
      obtain ⟨x, hx⟩ : ∃ x, x = l.getD (k + 1) 0 := ⟨_, rfl⟩
      rw [← hqe] at c0 hqk hstep
      rw [← hx] at c1 hlk hstep
      have HS : Hid (((stl l k).set (k + 1) (x + q / 268435456)).set k (q % 268435456) = stl l (k + 1)) := hstep
      have hR1 : WRow w ((wr.setCell ⟨g, k + 1, none⟩ (.int .i64 (x + q / 268435456))).drew) g ((stl l k).set (k + 1) (x + q / 268435456)) := (hR.set _ _).drew
      have c2 := hR1.at k (by rw [List.length_set]; omega)
      rw [show ((stl l k).set (k + 1) (x + q / 268435456)).getD k 0 = q by
        rw [List.getD_eq_getElem?_getD, List.getElem?_set_ne (by omega), ← List.getD_eq_getElem?_getD, hqe]; exact stl_getk l k (by rw [hl.out]; omega)] at c2
      have f2 := hR1.free k
      have HR2 : Hid (WRow w ((((wr.setCell ⟨g, k + 1, none⟩ (.int .i64 (x + q / 268435456))).drew).setCell ⟨g, k, none⟩ (.int .i64 (q % 268435456))).drew) g (stl l (k + 1))) := by
        show WRow _ _ _ _
        rw [← HS.out]
        exact (hR1.set _ _).drew
      have e28 := i64_and28 q
      clear hqe hx hR hstep hb hq hlen HS
      go_wp2_with fail
      go_region
      generalize (wr.setCell ⟨g, k + 1, none⟩ (.int .i64 (x + q / 268435456))).drew = w2 at hR1 c2 f2 HR2 ⊢
      clear hR1 c0 c1 f0 f1
      go_wp2_with fail
      go_region
      go_wp2
      go_roundw
      case rel => exact ⟨k + 1, by omega, by go_num, HR2.out⟩
      case measure => simp [intOf]; omega
    · obtain rfl : k = top := by omega
      go_wp2
      go_end0
      exact ⟨rfl, hR⟩
end EN
end Go.Proofs.YtabgihjffjlfiaaGreatDoor
set_option linter.unusedVariables false
namespace Go.Proofs.YtabgihjffjlfiaaGreatDoor
namespace EN
open Go.RowKit Go.Sort Go.BigFrame
set_option maxRecDepth 100000
set_option maxHeartbeats 2000000
/-- The table, as the program's text lays it. -/
def exd : List Int := [217437165, 19280293, 127719000, 262007343, 5342]
theorem exd_val : valW exd = exc := by decide
theorem exd_bound (j : Nat) : 0 ≤ exd.getD j 0 ∧ exd.getD j 0 ≤ 268435455 := by
  match j with
  | 0 => decide
  | 1 => decide
  | 2 => decide
  | 3 => decide
  | 4 => decide
  | n + 5 => simp [exd]
def ETab (w : World) : Prop := ∀ i, i < 5 → w.cell? ⟨4, i, none⟩ = some (.int .i64 (exd.getD i 0))
theorem ETab.frm {g : Nat} {w w' : World} (h : ETab w) (hf : Frm g w w') (hg : g ≠ 4) : ETab w' := fun i hi => by
  have e := h i hi
  unfold World.cell? at e ⊢
  rw [show w'.heap[(⟨4, i, none⟩ : Addr).block]? = w.heap[(⟨4, i, none⟩ : Addr).block]? from hf.block 4 (fun e => hg e.symm)]
  exact e
theorem ETab.below {w w' : World} (h : ETab w) (hb : Below w.heap.size w w') : ETab w' := fun i hi =>
  (hb.cell (p := ⟨4, i, none⟩) (block_lt_of_cell (h i hi))).trans (h i hi)
theorem ETab.pos {w : World} (h : ETab w) : 4 < w.heap.size := block_lt_of_cell (h 0 (by omega))
theorem prod_bound {t x : Int} (h1 : -1 ≤ t) (h2 : t ≤ 268435456) (h3 : 0 ≤ x) (h4 : x ≤ 268435455) : -268435456 ≤ t * x ∧ t * x ≤ 72057594037927936 := by
  by_cases h : t = -1
  · subst h; omega
  · have h5 : 0 ≤ t := by omega
    have h6 : 0 ≤ t * x := Int.mul_nonneg h5 h3
    have h7 : t * x ≤ 268435456 * 268435455 := Int.mul_le_mul h2 h4 h3 (by decide)
    omega
theorem set_getD (l : List Int) (k j : Nat) (v : Int) : (l.set k v).getD j 0 = if k = j ∧ k < l.length then v else l.getD j 0 := by
  simp only [List.getD_eq_getElem?_getD, List.getElem?_set]
  by_cases h : k = j
  · subst h
    by_cases h2 : k < l.length
    · simp [h2]
    · simp [h2]
  · simp [h]
theorem takeExcess31 (g m : Nat) (t : Int) (l : List Int) (w : World) (hl : Hid (l.length = 19)) (hm : m ≤ 9) (ht1 : -1 ≤ t) (ht2 : t ≤ 268435456) (hb : ∀ j, -600000000 ≤ l.getD j 0 ∧ l.getD j 0 ≤ 600000000)
    (hz : ∀ j, m + 9 ≤ j → l.getD j 0 = 0) (hg : w.heap[g]? = some (.cells (zints l) 69 (0, 0))) (hT : ETab w) (hg0 : g ≠ 4) :
    Calls Tryz.prog 81 #[.pointer (some ⟨g, 0, none⟩), .int .i64 ((m + 9 : Nat) : Int), .int .i64 t] w fun e w' => e = .returned (.tuple #[]) ∧ WRow w w' g (row (m + 8) (valW l - 268435456 ^ m * (t * exc))) := by
  have hR0 : WRow w w g l := ⟨Frm.refl _ _, hg⟩
  clear hg
  go_enter Tryz.func81, Tryz.ntmps81
  go_wp2_with fail
  go_loopw [7] (fun i wr => ∃ k : Nat, k ≤ 5 ∧ i = .int .i64 k ∧ ∃ l' : List Int, l'.length = 19 ∧ (∀ j, -(600000000 + 72057594037927936 * (k : Int)) ≤ l'.getD j 0 ∧ l'.getD j 0 ≤ 600000000 + 72057594037927936 * (k : Int)) ∧ (∀ j, m + 9 ≤ j → l'.getD j 0 = 0) ∧ valW l' = valW l - 268435456 ^ m * (t * valW (exd.take k)) ∧ WRow w wr g l') (fun i _ => 5 - (intOf i).toNat)
  case atStart => exact ⟨0, by omega, rfl, l, hl.out, by simpa using hb, hz, by simp [valW], hR0⟩
  case round =>
    obtain ⟨k, hk, rfl, l', hl', hb', hz', hv', hR⟩ := hrel
    clear hR0
    by_cases hlt : k < 5
    · have c1 := hR.at (m + k) (by omega)
      have f1 := hR.free (m + k)
      have c2 := (hT.frm hR.1 hg0) k hlt
      obtain ⟨x, hx⟩ : ∃ x, x = l'.getD (m + k) 0 := ⟨_, rfl⟩
      obtain ⟨y, hy⟩ : ∃ y, y = exd.getD k 0 := ⟨_, rfl⟩
      have hbx := hb' (m + k)
      have hby := exd_bound k
      rw [← hx] at c1 hbx
      rw [← hy] at c2 hby
      have hp := prod_bound ht1 ht2 hby.1 hby.2
      obtain ⟨p, hpe⟩ : ∃ p, p = t * y := ⟨_, rfl⟩
      rw [← hpe] at hp
      have hR1 := (hR.set (m + k) (x - p)).drew
      have HR1 : Hid (∃ l2 : List Int, l2.length = 19 ∧ (∀ j, -(600000000 + 72057594037927936 * ((k + 1 : Nat) : Int)) ≤ l2.getD j 0 ∧ l2.getD j 0 ≤ 600000000 + 72057594037927936 * ((k + 1 : Nat) : Int)) ∧ (∀ j, m + 9 ≤ j → l2.getD j 0 = 0) ∧ valW l2 = valW l - 268435456 ^ m * (t * valW (exd.take (k + 1))) ∧ WRow w (wr.setCell ⟨g, m + k, none⟩ (.int .i64 (x - p))).drew g l2) := by
        refine ⟨_, by rw [List.length_set]; exact hl', fun j => ?_, fun j hj => ?_, ?_, hR1⟩
        · have := hb' j
          rw [set_getD]
          split <;> omega
        · rw [set_getD, if_neg (by omega)]; exact hz' j hj
        · rw [valW_set _ _ _ (by omega), hv', valW_take_succ exd k, ← hx, ← hy, Int.pow_add, Int.mul_add, Int.mul_add, hpe, show x - t * y - x = -(t * y) by omega, Int.mul_neg]
          have e1 : 268435456 ^ m * (t * (268435456 ^ k * y)) = 268435456 ^ m * 268435456 ^ k * (t * y) := by
            rw [Int.mul_assoc, ← Int.mul_assoc t, Int.mul_comm t, Int.mul_assoc]
          omega
      have HP : Hid (p = t * y) := hpe
      have ei : ((m : Int) + 9 - 9 + (k : Int)) = ((m + k : Nat) : Int) := by omega
      have ep : t * y = p := hpe.symm
      clear hx hy hpe hR hR1 hb' hz' hv' hl' hb hz hT
      go_wp2_with fail
      go_region
      go_wp2
      go_roundw
      case rel => exact ⟨k + 1, by omega, by go_num, HR1.out⟩
      case measure => simp [intOf]; omega
    · obtain rfl : k = 5 := by omega
      have hc := settle30 g (m + 8) l' wr hl' (by omega) (fun j => by have := hb' j; omega) hR.2
      have HE : Hid (stl l' (m + 8) = row (m + 8) (valW l - 268435456 ^ m * (t * exc))) := by
        show _ = _
        rw [stl_row hl' (by omega) (fun j hj => hz' j (by omega)), hv', show exd.take 5 = exd from rfl, exd_val]
      rw [HE.out] at hc
      have hF := hR.1
      have es : ((m : Int) + 9 - 1) = ((m + 8 : Nat) : Int) := by omega
      clear hb' hz' hv' hl' hb hz hT hR
      go_wp2_with fail
      refine hc.mono ?_
      rintro e w1 ⟨rfl, hR1⟩
      go_wp2
      go_end0
      exact ⟨rfl, hF.trans hR1.1, hR1.2⟩
end EN
end Go.Proofs.YtabgihjffjlfiaaGreatDoor
set_option linter.unusedVariables false
namespace Go.Proofs.YtabgihjffjlfiaaGreatDoor
namespace EN
open Go.RowKit Go.Sort Go.BigFrame
set_option maxRecDepth 100000
set_option maxHeartbeats 2000000
def LI : Int := 7237005577332262213973186563042994240857116359379907606001950938285454250989
theorem LI_LL : LI = (LL : Int) := by decide
theorem b9 : (268435456 : Int) ^ 9 = 7237005577332262213973186563042994240829374041602535252466099000494570602496 := by decide
theorem b9L : (268435456 : Int) ^ 9 + exc = LI := by decide
/-- What is known of the number at round m. -/
def RInv (m : Nat) (N V : Int) : Prop := V % LI = N % LI ∧ -(11417981541647679048466287755595961091061972992 * 268435456 ^ m) ≤ V ∧ V < LI * 268435456 ^ m
theorem rinv_times {m : Nat} {N V : Int} (h : RInv (m + 1) N V) : -1 ≤ V / 268435456 ^ (m + 9) ∧ V / 268435456 ^ (m + 9) ≤ 268435456 := by
  obtain ⟨_, h1, h2⟩ := h
  have hB := pos28 m
  rw [Int.pow_add 268435456 m 9, b9]
  rw [Int.pow_succ] at h1 h2
  obtain ⟨B, hBe⟩ : ∃ B : Int, B = 268435456 ^ m := ⟨_, rfl⟩
  rw [← hBe] at hB h1 h2 ⊢
  unfold LI at h2
  clear hBe
  constructor
  · refine Int.le_ediv_of_mul_le (by omega) (by omega)
  · refine Int.le_of_lt_add_one (Int.ediv_lt_of_lt_mul (by omega) ?_)
    omega
theorem rinv_step {m : Nat} {N V : Int} (h : RInv (m + 1) N V) : RInv m N (V - 268435456 ^ (m + 9) * (V / 268435456 ^ (m + 9)) - 268435456 ^ m * (V / 268435456 ^ (m + 9) * exc)) := by
  have ht := rinv_times h
  obtain ⟨h0, h1, h2⟩ := h
  have hB := pos28 m
  have hr1 := Int.emod_nonneg V (show (268435456 : Int) ^ (m + 9) ≠ 0 by have := pos28 (m + 9); omega)
  have hr2 := Int.emod_lt_of_pos V (pos28 (m + 9))
  have hr3 := Int.mul_ediv_add_emod V (268435456 ^ (m + 9))
  obtain ⟨t, hte⟩ : ∃ t : Int, t = V / 268435456 ^ (m + 9) := ⟨_, rfl⟩
  rw [← hte] at ht hr3 ⊢
  obtain ⟨r, hre⟩ : ∃ r : Int, r = V % 268435456 ^ (m + 9) := ⟨_, rfl⟩
  rw [← hre] at hr1 hr2 hr3
  have e9 : (268435456 : Int) ^ (m + 9) = 268435456 ^ m * 7237005577332262213973186563042994240829374041602535252466099000494570602496 := by rw [Int.pow_add 268435456 m 9, b9]
  obtain ⟨B, hBe⟩ : ∃ B : Int, B = 268435456 ^ m := ⟨_, rfl⟩
  rw [← hBe] at e9 hB ⊢
  have hV : V - 268435456 ^ (m + 9) * t - B * (t * exc) = V - LI * (B * t) := by
    rw [e9, ← b9L, b9, Int.add_mul]
    have a1 : B * 7237005577332262213973186563042994240829374041602535252466099000494570602496 * t = 7237005577332262213973186563042994240829374041602535252466099000494570602496 * (B * t) := by rw [Int.mul_comm B, Int.mul_assoc]
    have a2 : B * (t * exc) = exc * (B * t) := by rw [← Int.mul_assoc, Int.mul_comm]
    rw [a1, a2]; omega
  have hexc : (0 : Int) < exc ∧ exc < 42535295865117307932921825928971026432 := by decide
  have hu1 : -exc ≤ t * exc := by
    have := Int.mul_le_mul_of_nonneg_right ht.1 (Int.le_of_lt hexc.1)
    omega
  have hu2 : t * exc ≤ 268435456 * exc := Int.mul_le_mul_of_nonneg_right ht.2 (Int.le_of_lt hexc.1)
  have hw1 : B * (-exc) ≤ B * (t * exc) := Int.mul_le_mul_of_nonneg_left hu1 (Int.le_of_lt hB)
  have hw2 : B * (t * exc) ≤ B * (268435456 * exc) := Int.mul_le_mul_of_nonneg_left hu2 (Int.le_of_lt hB)
  refine ⟨?_, ?_, ?_⟩
  · rw [hV, Int.sub_mul_emod_self_left, h0]
  · have : B * (268435456 * exc) ≤ B * 11417981541647679048466287755595961091061972992 := Int.mul_le_mul_of_nonneg_left (by decide) (Int.le_of_lt hB)
    rw [← hBe]
    omega
  · rw [← hBe, ← b9L, b9, Int.add_mul]
    have : B * (-exc) = -(exc * B) := by rw [Int.mul_neg, Int.mul_comm]
    omega
theorem rinv_last {N V : Int} (h : RInv 0 N V) (hN : 0 ≤ V) : V = N % LI := by
  obtain ⟨h0, h1, h2⟩ := h
  rw [← h0, Int.emod_eq_of_lt hN (by simpa using h2)]
theorem rinv_last2 {N V : Int} (h : RInv 0 N V) (hN : V < 0) : V + LI = N % LI := by
  obtain ⟨h0, h1, h2⟩ := h
  rw [← h0, ← Int.add_emod_right V LI, Int.emod_eq_of_lt (by simp at h1; unfold LI; omega) (by omega)]
theorem row_bound {top : Nat} {V : Int} (h1 : -1 ≤ V / 268435456 ^ top) (h2 : V / 268435456 ^ top ≤ 268435456) (j : Nat) : -1 ≤ (row top V).getD j 0 ∧ (row top V).getD j 0 ≤ 268435456 := by
  rcases Nat.lt_trichotomy j top with h | h | h
  · rw [row_get_lt V h]; omega
  · subst h; rw [row_get_top]; omega
  · rw [row_get_gt V h]; omega
theorem reduce21 (g : Nat) (N : Int) (w : World) (h0 : 0 ≤ N) (h1 : N < 268435456 ^ 19) (hg : w.heap[g]? = some (.cells (zints (row 18 N)) 69 (0, 0))) (hT : ETab w) (hg0 : g ≠ 4) :
    Calls Tryz.prog 44 #[.pointer (some ⟨g, 0, none⟩)] w fun e w' => e = .returned (.tuple #[]) ∧ WRow w w' g (row 8 (N % LI)) := by
  have hR0 : WRow w w g (row (10 + 8) N) := ⟨Frm.refl _ _, hg⟩
  have hI0 : RInv 10 N N := by
    refine ⟨rfl, ?_, ?_⟩
    · have : (0 : Int) ≤ 11417981541647679048466287755595961091061972992 * 268435456 ^ 10 := by decide
      omega
    · have : (268435456 : Int) ^ 19 ≤ LI * 268435456 ^ 10 := by decide
      omega
  clear hg h0 h1
  go_enter Tryz.func44, Tryz.ntmps44
  go_wp2_with fail
  go_loopw [2] (fun i wr => ∃ m : Nat, ∃ V : Int, m ≤ 10 ∧ i = .int .i64 ((m + 8 : Nat) : Int) ∧ RInv m N V ∧ WRow w wr g (row (m + 8) V)) (fun i _ => (intOf i).toNat)
  case atStart => exact ⟨10, N, by omega, rfl, hI0, hR0⟩
  case round =>
    obtain ⟨m, V, hm, rfl, hI, hR⟩ := hrel
    clear hR0 hI0
    by_cases hm0 : m = 0
    · subst hm0
      have c8 := hR.at 8 (by rw [row_len (by omega)]; omega)
      have f8 := hR.free 8
      rw [show 0 + 8 = 8 from rfl] at hR c8
      rw [row_get_top] at c8
      have HI : Hid (RInv 0 N V) := hI
      have hq1 : -1 ≤ V / 268435456 ^ 8 ∧ V / 268435456 ^ 8 ≤ 268435456 := by
        obtain ⟨_, h1, h2⟩ := hI
        simp only [Int.pow_zero, Int.mul_one] at h1 h2
        unfold LI at h2
        have : (268435456 : Int) ^ 8 = 26959946667150639794667015087019630673637144422540572481103610249216 := by decide
        rw [this]
        omega
      have hneg : V / 268435456 ^ 8 < 0 ↔ V < 0 := by
        have : (268435456 : Int) ^ 8 = 26959946667150639794667015087019630673637144422540572481103610249216 := by decide
        rw [this]
        omega
      obtain ⟨q, hq⟩ : ∃ q, q = V / 268435456 ^ 8 := ⟨_, rfl⟩
      rw [← hq] at c8 hq1 hneg
      clear hI
      by_cases hlt : q < 0
      · have hl2 : valW ((row 8 V).set 8 (q + 268435456)) = V + 268435456 ^ 9 := by
          rw [valW_set _ _ _ (by rw [row_len (by omega)]; omega), valW_row, row_get_top, ← hq, show q + 268435456 - q = 268435456 by omega, ← Int.pow_succ]
        have hR1 := (hR.set 8 (q + 268435456)).drew
        have hc := takeExcess31 g 0 (-1) ((row 8 V).set 8 (q + 268435456)) (wr.setCell ⟨g, 8, none⟩ (.int .i64 (q + 268435456))).drew (by show _ = _; rw [List.length_set, row_len (by omega)]) (by omega) (by omega) (by omega)
          (fun j => by have := row_bound (top := 8) (V := V) (by omega) (by omega) j; rw [set_getD]; split <;> omega)
          (fun j hj => by rw [set_getD, if_neg (by omega)]; exact row_get_gt V (by omega)) hR1.2 (hT.frm hR1.1 hg0) hg0
        have HE : Hid (V + LI = N % LI) := rinv_last2 HI.out (hneg.1 hlt)
        rw [hl2, show V + 268435456 ^ 9 - 268435456 ^ 0 * (-1 * exc) = V + LI by rw [← b9L]; simp; omega, HE.out] at hc
        have hF := hR1.1
        clear hl2 hq hneg hR hR1 HE hT HI
        go_wp2_with fail
        go_region
        generalize (wr.setCell ⟨g, 8, none⟩ (.int .i64 (q + 268435456))).drew = w2 at hc hF ⊢
        go_wp2_with fail
        refine hc.mono ?_
        rintro e w1 ⟨rfl, hR1⟩
        go_wp2
        go_end0
        exact ⟨rfl, hF.trans hR1.1, hR1.2⟩
      · have HE : Hid (V = N % LI) := rinv_last HI.out (by omega)
        rw [HE.out] at hR
        clear hq hneg HE hT HI
        go_wp2
        go_end0
        exact ⟨rfl, hR⟩
    · obtain ⟨m, rfl⟩ : ∃ i, m = i + 1 := ⟨m - 1, by omega⟩
      clear hm0
      have ht := rinv_times hI
      have hI1 := rinv_step hI
      have eT : m + 1 + 8 = m + 9 := by omega
      rw [eT] at hR ⊢
      have c1 := hR.at (m + 9) (by rw [row_len (by omega)]; omega)
      have f1 := hR.free (m + 9)
      rw [row_get_top] at c1
      obtain ⟨t, hte⟩ : ∃ t : Int, t = V / 268435456 ^ (m + 9) := ⟨_, rfl⟩
      rw [← hte] at c1 ht hI1
      have hR1 := hR.set (m + 9) 0
      have hl2 : valW ((row (m + 9) V).set (m + 9) 0) = V - 268435456 ^ (m + 9) * t := by
        rw [valW_set _ _ _ (by rw [row_len (by omega)]; omega), valW_row, row_get_top, ← hte, Int.zero_sub, Int.mul_neg]; omega
      have hc := takeExcess31 g m t ((row (m + 9) V).set (m + 9) 0) (wr.setCell ⟨g, m + 9, none⟩ (.int .i64 0)) (by show _ = _; rw [List.length_set, row_len (by omega)]) (by omega) ht.1 ht.2
          (fun j => by have := row_bound (top := m + 9) (V := V) (by omega) (by omega) j; rw [set_getD]; split <;> omega)
          (fun j hj => by
            rw [set_getD]
            split
            · rfl
            · exact row_get_gt V (by rw [row_len (by omega)] at *; omega)) hR1.2 (hT.frm hR1.1 hg0) hg0
      rw [hl2] at hc
      have hF := hR1.1
      have HI : Hid (RInv m N (V - 268435456 ^ (m + 9) * t - 268435456 ^ m * (t * exc))) := hI1
      clear hl2 hte hR hR1 hI hI1
      go_wp2_with fail
      generalize (wr.setCell ⟨g, m + 9, none⟩ (.int .i64 0)) = w2 at hc hF ⊢
      refine hc.mono ?_
      rintro e w1 ⟨rfl, hR1⟩
      have hR2 : WRow w w1 g (row (m + 8) (V - 268435456 ^ (m + 9) * t - 268435456 ^ m * (t * exc))) := ⟨hF.trans hR1.1, hR1.2⟩
      clear hc hR1
      go_wp2
      go_roundw
      case rel => exact ⟨m, _, by omega, by go_num, HI.out, hR2⟩
      case measure => simp [intOf]; omega
end EN
end Go.Proofs.YtabgihjffjlfiaaGreatDoor
