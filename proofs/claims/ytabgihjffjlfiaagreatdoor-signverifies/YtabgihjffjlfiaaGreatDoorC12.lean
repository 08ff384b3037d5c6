/-
  The reference's Read. Single operations and calls for the reference's Verify. The walk of the reference's Verify.
-/
import Derived.Test.YtabgihjffjlfiaaGreatDoorC8
import Derived.Test.YtabgihjffjlfiaaGreatDoorC11
set_option linter.unusedVariables false
namespace Go.Proofs.YtabgihjffjlfiaaGreatDoor
open Go.RowKit Go.Sort Go.BigFrame
set_option maxRecDepth 100000
set_option maxHeartbeats 2000000
/-- Digits in a row of their own, which may have room behind. -/
def OwnI (lo : Nat) (l : List Nat) (v : Value) (w : World) : Prop :=
  ∃ g cap cur, v = .slice (some ⟨g, 0, none⟩) l.length cap ∧ lo ≤ g ∧ w.heap[g]? = some (.cells cur 3 (0, 0)) ∧ l.length ≤ cap ∧ cap ≤ 9223372036854775807 ∧ ∀ i, i < l.length → cur[i]? = some (.int .i64 ((l.getD i 0 : Nat) : Int))
theorem OwnI.stb (lo : Nat) (l : List Nat) : Stb (OwnI lo l) := fun _ _ _ hb ⟨g, c, cur, h1, h2, h3, h4⟩ => ⟨g, c, cur, h1, h2, block_below hb (lt_of_heap h3) h3, h4⟩
theorem own_I {w : World} {lo n : Nat} {v : Value} {l : List Nat} (hn : l.length = n) (h0 : 0 < n) (h : w.ownsRow lo 3 1 v n (iv l)) : OwnI lo l v w := by
  obtain ⟨_, h | ⟨g, cap, cur, h1, h2, h3, h4, h5, h6, h7⟩⟩ := h
  · omega
  · subst hn
    refine ⟨g, cap, cur, h1, h2, h3, h4, by unfold maxLen at h5; omega, fun i hi => ?_⟩
    have := congrArg (fun x : List Value => x[i]?) h7
    rw [List.getElem?_take_of_lt (by omega), Array.getElem?_toList] at this
    rw [this]
    simp [iv, hi]
theorem intsAt_cur {w : World} {g : Nat} {cur : Array Value} {t : Nat} {fr : Nat × Nat} {l : List Nat} (h : w.heap[g]? = some (.cells cur t fr)) (hc : ∀ i, i < l.length → cur[i]? = some (.int .i64 ((l.getD i 0 : Nat) : Int))) : IntsAt w g 0 l := fun i hi => by
  rw [Nat.zero_add, cell_of_row w g i _ t _ h]; exact hc i hi
theorem cur_setI {w : World} {g : Nat} {cur : Array Value} {l : List Nat} (h : w.heap[g]? = some (.cells cur 3 (0, 0))) (hc : ∀ i, i < l.length → cur[i]? = some (.int .i64 ((l.getD i 0 : Nat) : Int))) (k x : Nat) (hk : k < l.length) :
    (w.setCell ⟨g, k, none⟩ (.int .i64 (x : Int))).heap[g]? = some (.cells (cur.setIfInBounds k (.int .i64 (x : Int))) 3 (0, 0)) ∧ ∀ i, i < (l.set k x).length → (cur.setIfInBounds k (.int .i64 (x : Int)))[i]? = some (.int .i64 (((l.set k x).getD i 0 : Nat) : Int)) := by
  refine ⟨heap_setCell_same w g k _ 3 _ h, fun i hi => ?_⟩
  rw [List.length_set] at hi
  have hks : k < cur.size := (Array.getElem?_eq_some_iff.1 (hc k hk)).1
  rw [getD_set2 _ _ _ _ hk]
  by_cases e : i = k
  · subst e
    rw [Array.getElem?_setIfInBounds_self_of_lt hks, if_pos rfl]
  · rw [Array.getElem?_setIfInBounds_ne (Ne.symm e), if_neg e]; exact hc i hi
theorem rDigitsOwn {v x : Value} {l : List Nat} {lo : Nat} (w : World) (hlo : lo ≤ w.heap.size) (hv : v = x) (h : Bts l x w) (hd : Dig l) (hl : l.length = 32) : Ret 59 #[v] w (OwnI lo l) := by
  subst hv
  obtain ⟨a, cap, rfl, h1, h2, hv⟩ := h
  refine (digits11 a l.length cap l w rfl h1 (by omega) hd hv).mono fun e w' ⟨v, he, hB, hown⟩ => ⟨v, he, hB, ?_⟩
  obtain ⟨g, c, cur, k1, k2, k3⟩ := own_I rfl (by omega) hown
  exact ⟨g, c, cur, k1, by omega, k3⟩
theorem rP (w : World) : Ret 61 #[] w (DRow (digs 32 pp)) := (p12 w).mono fun e w' ⟨g, he, hR⟩ => ⟨_, he, hR.1, drow_of hR (digs_len _ _)⟩
theorem rLess {x y : List Nat} {v1 v2 : Value} {b : Bool} (hb : decide (valD x < valD y) = b) (w : World) (h1 : DRow x v1 w) (h2 : DRow y v2 w) (hx : x.length ≤ 1000) (hy : y.length ≤ 1000) (dx : Dig x) (dy : Dig y) : Ret 60 #[v1, v2] w (Is (.bool b)) := by
  obtain ⟨a, ca, rfl, _, _, ha⟩ := h1
  obtain ⟨c, cb, rfl, _, _, hc⟩ := h2
  refine (less10 a x.length ca x c y.length cb y w rfl rfl (by omega) (by omega) ha hc dx dy).mono fun e w' ⟨he, hw⟩ => ?_
  subst hw
  exact ⟨_, he, Below.refl _ _, by rw [← hb]; rfl⟩
theorem drow_rw {L : List Nat} {x : Fe} {v : Value} {w : World} (hL : L = digs 32 x.val) (h : DRow L v w) : Rw x v w := by
  subst hL
  obtain ⟨a, c, h1, h2, h3, h4⟩ := h
  rw [digs_len] at h1 h2
  exact ⟨a, c, h1, h2, h3, h4⟩
theorem valPP : valD (digs 32 pp) = pp := by decide
theorem rOfErrI {y : Fe} {v v2 : Value} {bb : Bool} (hno : ¬ ∃ p : Pt, p.y = y ∧ decide (p.x.val % 2 = 1) = bb) (w : World) (hy : Rw y v w) (h2 : v2 = .bool bb) : Ret 53 #[v, v2] w (Tup2 (Is (.agg #[.slice none 0 0, .slice none 0 0])) (Is (.bool false))) := by
  subst h2; exact rOfErr hno w hy
theorem rOfPtI {p : Pt} {v v2 : Value} {bb : Bool} (hb : decide (p.x.val % 2 = 1) = bb) (w : World) (hy : Rw p.y v w) (h2 : v2 = .bool bb) : Ret 53 #[v, v2] w (Tup2 (RPt p.x p.y) (Is (.bool true))) := by
  subst h2; exact rOfPt hb w hy
theorem rReadLen (ad : Option Addr) (len cap : Nat) (w : World) (h : len ≠ 32) : Ret 25 #[.slice ad len cap] w (Tup2 (Is (.agg #[.slice none 0 0, .slice none 0 0])) (Is (.bool false))) := by
  unfold Ret
  have hO0 : Below w.heap.size w w := Below.refl _ _
  go_enter Tryz.func25, Tryz.ntmps25
  refine wp_seq_k fun K1 hK1 => ?_
  refine wp_plain_inv 2 (specs [Box w.heap.size (#[.slice none 0 0, .slice none 0 0]) 45, Is (.bool false)]) (specs_stb ⟨Box.stb _ _ _, Is.stb _, trivial⟩) (by kernel_rfl) ?_ ?_
  · refine ⟨fun a w hB hfr hdep => Step.plain rfl (dAlloc35 hB.size rfl),
      fun a w hB hfr hdep => Step.plain rfl (dAssign (R := Is (.bool false)) rfl rfl), trivial⟩
  intro u1 hb1
  simp only [List.take, List.drop, FinAll, Act.put, List.setIfInBounds_toArray, List.set_cons_succ, List.set_cons_zero]
  rintro _ ⟨g2_1, rfl, l2_1, m2_1⟩ _ rfl
  have hO1 := (hO0).trans (hb1.mono (hO0).size)
  have lwm2_1 := Nat.le_trans (hO0).size l2_1
  refine hK1 _ _ ?_
  clear hK1 K1
  refine wp_seq_k fun KO1 hKO1 => ?_
  refine wp_seq_k fun K2 hK2 => ?_
  refine wp_plain_inv 3 (specs [Is (.slice ad len cap), Is (.int .i64 (len : Int)), Is (.bool true)]) (specs_stb ⟨Is.stb _, Is.stb _, Is.stb _, trivial⟩) (by kernel_rfl) ?_ ?_
  · refine ⟨fun a w hB hfr hdep => Step.plain rfl (dMove (R := Is (.slice ad len cap)) rfl (hfr 0 (by kernel_rfl))),
      fun a w hB hfr hdep => Step.plain rfl (Does.run _ (run_lenO rfl (hdep 0 7 (by kernel_rfl))) rfl),
      fun a w hB hfr hdep => Step.plain rfl (Does.run _ (run_neq32 h rfl (hdep 1 8 (by kernel_rfl)) rfl) rfl), trivial⟩
  intro u2 hb2
  simp only [List.take, List.drop, FinAll, Act.put, List.setIfInBounds_toArray, List.set_cons_succ, List.set_cons_zero]
  rintro _ rfl _ rfl _ rfl
  have hO2 := (hO1).trans (hb2.mono (hO1).size)
  have m2_1__2 := block_below hb2 (lt_of_heap m2_1) m2_1
  refine hK2 _ _ ?_
  clear hK2 K2
  refine wp_cond_true rfl ?_
  refine wp_seq_k fun K3 hK3 => ?_
  refine wp_plain_inv 1 (specs [Is (.agg #[.slice none 0 0, .slice none 0 0])]) (specs_stb ⟨Is.stb _, trivial⟩) (by kernel_rfl) ?_ ?_
  · refine ⟨fun a w hB hfr hdep => Step.plain rfl (Does.run _ (bu35z rfl) rfl), trivial⟩
  intro u3 hb3
  simp only [List.take, List.drop, FinAll, Act.put, List.setIfInBounds_toArray, List.set_cons_succ, List.set_cons_zero]
  rintro _ rfl
  have om2_1__2 := block_below hb3 (lt_of_heap m2_1__2) m2_1__2
  refine wpList_store_row rfl 45 (.tmp 2) (.tmp 10) rfl _ (#[.slice none 0 0, .slice none 0 0]) rfl rfl 45 _ om2_1__2 info35 rfl (by simp [Value.oneCell']) ?_
  refine wpList_assign rfl rfl rfl ?_
  simp only [Act.put, Act.eval, List.setIfInBounds_toArray, List.set_cons_succ, List.set_cons_zero]
  have n2_3 := setRow_heap _ _ _ (#[.slice none 0 0, .slice none 0 0]) _ _ om2_1__2
  have hO3 := setRow_below (hO2.trans (hb3.mono (hO2).size)) lwm2_1 (#[.slice none 0 0, .slice none 0 0])
  refine hK3 _ _ ?_
  clear hK3 K3
  refine wp_ret ?_
  simp only [Exit.then]
  refine bodyPost_ret (v := .tuple #[.agg (#[.slice none 0 0, .slice none 0 0]), .bool false]) ?_ rfl ⟨_, rfl, hO3, ⟨_, _, rfl, rfl, rfl⟩⟩
  exact results_cell_tmp Tryz.results25 _ _ _ 45 _ (0, 0) _ _ rfl rfl n2_3 Tryz.underlying45 rfl (by first | exact info26 | exact info29 | exact info35 | (rw [(Pt4.cells (by assumption)).1]; exact info29) | (rw [cellsP_size (by assumption)]; exact info29))
theorem rReadA (w : World) {l : List Nat} {gx off cap c d : Nat} {bb : Bool} (hb : Bts l (.slice (some ⟨gx, off, none⟩) 32 cap) w) (hl : l.length = 32) (hd : Dig l) (hcc : Hid (c = l.getD 31 0)) (hc256 : c < 256) (hge : decide ((128 : Int) ≤ (c : Int)) = bb) (hrm : Int.tmod (c : Int) 128 = (d : Int)) (hl1 : (l.set 31 d).length = 32) (hd1 : Dig (l.set 31 d)) (hA : decide (valD (l.set 31 d) < valD (digs 32 pp)) = false) : Ret 25 #[.slice (some ⟨gx, off, none⟩) 32 cap] w (Tup2 (Is (.agg #[.slice none 0 0, .slice none 0 0])) (Is (.bool false))) := by
  have h32 : ((32 : Int) != 32) = false := rfl
  unfold Ret
  have hO0 : Below w.heap.size w w := Below.refl _ _
  go_enter Tryz.func25, Tryz.ntmps25
  refine wp_seq_k fun K1 hK1 => ?_
  refine wp_plain_inv 2 (specs [Box w.heap.size (#[.slice none 0 0, .slice none 0 0]) 45, Is (.bool false)]) (specs_stb ⟨Box.stb _ _ _, Is.stb _, trivial⟩) (by kernel_rfl) ?_ ?_
  · refine ⟨fun a w hB hfr hdep => Step.plain rfl (dAlloc35 hB.size rfl),
      fun a w hB hfr hdep => Step.plain rfl (dAssign (R := Is (.bool false)) rfl rfl), trivial⟩
  intro u1 hb1
  simp only [List.take, List.drop, FinAll, Act.put, List.setIfInBounds_toArray, List.set_cons_succ, List.set_cons_zero]
  rintro _ ⟨g2_1, rfl, l2_1, m2_1⟩ _ rfl
  have hO1 := (hO0).trans (hb1.mono (hO0).size)
  have lwm2_1 := Nat.le_trans (hO0).size l2_1
  refine hK1 _ _ ?_
  clear hK1 K1
  refine wp_seq_k fun KO1 hKO1 => ?_
  refine wp_seq_k fun K2 hK2 => ?_
  refine wp_plain_inv 3 (specs [Is (.slice (some ⟨gx, off, none⟩) 32 cap), Is (.int .i64 32), Is (.bool false)]) (specs_stb ⟨Is.stb _, Is.stb _, Is.stb _, trivial⟩) (by kernel_rfl) ?_ ?_
  · refine ⟨fun a w hB hfr hdep => Step.plain rfl (dMove (R := Is (.slice (some ⟨gx, off, none⟩) 32 cap)) rfl (hfr 0 (by kernel_rfl))),
      fun a w hB hfr hdep => Step.plain rfl (Does.run _ (run_lenO rfl (hdep 0 7 (by kernel_rfl))) rfl),
      fun a w hB hfr hdep => Step.plain rfl (Does.run _ (run_binO rfl (hdep 1 8 (by kernel_rfl)) rfl (by kernel_rfl)) rfl), trivial⟩
  intro u2 hb2
  simp only [List.take, List.drop, FinAll, Act.put, List.setIfInBounds_toArray, List.set_cons_succ, List.set_cons_zero]
  rintro _ rfl _ rfl _ rfl
  have hO2 := (hO1).trans (hb2.mono (hO1).size)
  have m2_1__2 := block_below hb2 (lt_of_heap m2_1) m2_1
  refine hK2 _ _ ?_
  clear hK2 K2
  refine wp_cond_false rfl ?_
  refine wp_skip ?_
  refine hKO1 _ _ ?_
  clear hKO1 KO1
  refine wp_seq_k fun K3 hK3 => ?_
  refine wp_plain_inv 3 (specs [Is (.slice (some ⟨gx, off, none⟩) 32 cap), OwnI u2.heap.size l, OwnI u2.heap.size l]) (specs_stb ⟨Is.stb _, OwnI.stb _ _, OwnI.stb _ _, trivial⟩) (by kernel_rfl) ?_ ?_
  · refine ⟨fun a w hB hfr hdep => Step.plain rfl (dMove (R := Is (.slice (some ⟨gx, off, none⟩) 32 cap)) rfl (hfr 0 (by kernel_rfl))),
      fun a w hB hfr hdep => Step.plain rfl (Does.call 59 #[(a.eval (.tmp 11))] (by kernel_rfl) (rDigitsOwn w hB.size (hdep 0 11 (by kernel_rfl)) (Bts.stb _ _ _ _ hB (Bts.stb _ _ _ _ hO2 hb)) hd hl)),
      fun a w hB hfr hdep => Step.plain rfl (dAssign (R := OwnI u2.heap.size l) rfl (hdep 1 12 (by kernel_rfl))), trivial⟩
  intro u3 hb3
  simp only [List.take, List.drop, FinAll, Act.put, List.setIfInBounds_toArray, List.set_cons_succ, List.set_cons_zero]
  rintro _ rfl v12_3 h12_3 v4_3 h4_3
  have hO3 := (hO2).trans (hb3.mono (hO2).size)
  have m2_1__3 := block_below hb3 (lt_of_heap m2_1__2) m2_1__2
  refine hK3 _ _ ?_
  clear hK3 K3
  obtain ⟨g4, cap4, cur4, hv4, hl4, hrow4, hc4, hc4', hcur⟩ := h4_3
  rw [hl] at hv4 hcur hc4
  subst hv4
  have c31 := cell_of_row _ g4 31 _ _ _ hrow4
  rw [hcur 31 (by omega), ← hcc.out] at c31
  have f31 := frozen_of_row _ g4 31 _ _ hrow4
  have hst := cur_setI hrow4 (by rw [hl]; exact hcur) 31 d (by omega)
  have hOs := (hO3).setCell (p := ⟨g4, 31, none⟩) (by show _ ≤ g4; have := hO1.size; have := hb2.size; omega) (.int .i64 (d : Int))
  have nz : g2_1 ≠ g4 := by have := hb2.size; have := lt_of_heap m2_1; omega
  have hz2 := (heap_setCell_other u3 ⟨g4, 31, none⟩ g2_1 (.int .i64 (d : Int)) nz).trans m2_1__3
  have HOS : Hid _ := hOs
  have HZ2 : Hid _ := hz2
  have HST : Hid _ := hst
  clear hOs hz2 hst
  refine wp_seq_k fun KB hKB => ?_
  have HKB : Hid _ := hKB
  clear hKB
  go_wp2
  refine HKB.out _ _ ?_
  clear HKB KB
  refine wp_seq_k fun KC hKC => ?_
  have HKC : Hid _ := hKC
  clear hKC
  go_wp2
  refine HKC.out _ _ ?_
  clear HKC KC
  have hO := HOS.out
  have hz := HZ2.out
  have hb9 : DRow (l.set 31 d) (.slice (some ⟨g4, 0, none⟩) 32 cap4) (u3.setCell ⟨g4, 31, none⟩ (.int .i64 (d : Int))) := ⟨_, _, by rw [hl1], by rw [hl1]; exact hc4, hc4', fun _ => ⟨g4, 0, rfl, intsAt_cur HST.out.1 HST.out.2⟩⟩
  clear HOS HZ2 HST c31 f31
  generalize u3.setCell ⟨g4, 31, none⟩ (.int .i64 (d : Int)) = uu at hO hz hb9 ⊢
  refine wp_seq_k fun K4 hK4 => ?_
  refine wp_plain_inv 4 (specs [DRow (l.set 31 d), DRow (digs 32 pp), Is (.bool false), Is (.bool false)]) (specs_stb ⟨DRow.stb _, DRow.stb _, Is.stb _, Is.stb _, trivial⟩) (by kernel_rfl) ?_ ?_
  · refine ⟨fun a w hB hfr hdep => Step.plain rfl (dMove (R := DRow (l.set 31 d)) rfl (use (hfr 4 (by kernel_rfl)) ((DRow.stb _) _ _ _ hB hb9))),
      fun a w hB hfr hdep => Step.plain rfl (Does.call 61 #[] (by kernel_rfl) (rP w)),
      fun a w hB hfr hdep => Step.plain rfl (Does.call 60 #[(a.eval (.tmp 23)), (a.eval (.tmp 24))] (by kernel_rfl) (rLess hA w (hdep 0 23 (by kernel_rfl)) (hdep 1 24 (by kernel_rfl)) (by rw [hl1]; decide) (by rw [digs_len]; decide) hd1 (digs_dig _ _))),
      fun a w hB hfr hdep => Step.plain rfl (dAssign (R := Is (.bool false)) rfl (hdep 2 25 (by kernel_rfl))), trivial⟩
  intro u4 hb4
  simp only [List.take, List.drop, FinAll, Act.put, List.setIfInBounds_toArray, List.set_cons_succ, List.set_cons_zero]
  rintro v23_4 h23_4 v24_4 h24_4 _ rfl _ rfl
  have hO4 := (hO).trans (hb4.mono (hO).size)
  have hz__4 := block_below hb4 (lt_of_heap hz) hz
  refine hK4 _ _ ?_
  clear hK4 K4
  refine wp_seq_k fun KO7 hKO7 => ?_
  refine wp_seq_k fun K5 hK5 => ?_
  refine wp_plain_inv 2 (specs [Is (.bool false), Is (.bool true)]) (specs_stb ⟨Is.stb _, Is.stb _, trivial⟩) (by kernel_rfl) ?_ ?_
  · refine ⟨fun a w hB hfr hdep => Step.plain rfl (dMove (R := Is (.bool false)) rfl (hfr 6 (by kernel_rfl))),
      fun a w hB hfr hdep => Step.plain rfl (Does.run _ (run_notO rfl (hdep 0 26 (by kernel_rfl))) rfl), trivial⟩
  intro u5 hb5
  simp only [List.take, List.drop, FinAll, Act.put, List.setIfInBounds_toArray, List.set_cons_succ, List.set_cons_zero]
  rintro _ rfl _ rfl
  have hO5 := (hO4).trans (hb5.mono (hO4).size)
  have hz__5 := block_below hb5 (lt_of_heap hz__4) hz__4
  refine hK5 _ _ ?_
  clear hK5 K5
  refine wp_cond_true rfl ?_
  refine wp_seq_k fun K6 hK6 => ?_
  refine wp_plain_inv 1 (specs [Is (.agg #[.slice none 0 0, .slice none 0 0])]) (specs_stb ⟨Is.stb _, trivial⟩) (by kernel_rfl) ?_ ?_
  · refine ⟨fun a w hB hfr hdep => Step.plain rfl (Does.run _ (bu35z rfl) rfl), trivial⟩
  intro u6 hb6
  simp only [List.take, List.drop, FinAll, Act.put, List.setIfInBounds_toArray, List.set_cons_succ, List.set_cons_zero]
  rintro _ rfl
  have ohz__5 := block_below hb6 (lt_of_heap hz__5) hz__5
  refine wpList_store_row rfl 45 (.tmp 2) (.tmp 28) rfl _ (#[.slice none 0 0, .slice none 0 0]) rfl rfl 45 _ ohz__5 info35 rfl (by simp [Value.oneCell']) ?_
  refine wpList_assign rfl rfl rfl ?_
  simp only [Act.put, Act.eval, List.setIfInBounds_toArray, List.set_cons_succ, List.set_cons_zero]
  have n2_6 := setRow_heap _ _ _ (#[.slice none 0 0, .slice none 0 0]) _ _ ohz__5
  have hO6 := setRow_below (hO5.trans (hb6.mono (hO5).size)) lwm2_1 (#[.slice none 0 0, .slice none 0 0])
  refine hK6 _ _ ?_
  clear hK6 K6
  refine wp_ret ?_
  simp only [Exit.then]
  refine bodyPost_ret (v := .tuple #[.agg (#[.slice none 0 0, .slice none 0 0]), .bool false]) ?_ rfl ⟨_, rfl, hO6, ⟨_, _, rfl, rfl, rfl⟩⟩
  exact results_cell_tmp Tryz.results25 _ _ _ 45 _ (0, 0) _ _ rfl rfl n2_6 Tryz.underlying45 rfl (by first | exact info26 | exact info29 | exact info35 | (rw [(Pt4.cells (by assumption)).1]; exact info29) | (rw [cellsP_size (by assumption)]; exact info29))
theorem rReadE (w : World) {l : List Nat} {gx off cap c d : Nat} {bb : Bool} (hb : Bts l (.slice (some ⟨gx, off, none⟩) 32 cap) w) (hl : l.length = 32) (hd : Dig l) (hcc : Hid (c = l.getD 31 0)) (hc256 : c < 256) (hge : decide ((128 : Int) ≤ (c : Int)) = bb) (hrm : Int.tmod (c : Int) 128 = (d : Int)) (hl1 : (l.set 31 d).length = 32) (hd1 : Dig (l.set 31 d)) {y : Fe} (hA : decide (valD (l.set 31 d) < valD (digs 32 pp)) = true) (hL : l.set 31 d = digs 32 y.val) (hno : ¬ ∃ p : Pt, p.y = y ∧ decide (p.x.val % 2 = 1) = bb) : Ret 25 #[.slice (some ⟨gx, off, none⟩) 32 cap] w (Tup2 (Is (.agg #[.slice none 0 0, .slice none 0 0])) (Is (.bool false))) := by
  have h32 : ((32 : Int) != 32) = false := rfl
  unfold Ret
  have hO0 : Below w.heap.size w w := Below.refl _ _
  go_enter Tryz.func25, Tryz.ntmps25
  refine wp_seq_k fun K1 hK1 => ?_
  refine wp_plain_inv 2 (specs [Box w.heap.size (#[.slice none 0 0, .slice none 0 0]) 45, Is (.bool false)]) (specs_stb ⟨Box.stb _ _ _, Is.stb _, trivial⟩) (by kernel_rfl) ?_ ?_
  · refine ⟨fun a w hB hfr hdep => Step.plain rfl (dAlloc35 hB.size rfl),
      fun a w hB hfr hdep => Step.plain rfl (dAssign (R := Is (.bool false)) rfl rfl), trivial⟩
  intro u1 hb1
  simp only [List.take, List.drop, FinAll, Act.put, List.setIfInBounds_toArray, List.set_cons_succ, List.set_cons_zero]
  rintro _ ⟨g2_1, rfl, l2_1, m2_1⟩ _ rfl
  have hO1 := (hO0).trans (hb1.mono (hO0).size)
  have lwm2_1 := Nat.le_trans (hO0).size l2_1
  refine hK1 _ _ ?_
  clear hK1 K1
  refine wp_seq_k fun KO1 hKO1 => ?_
  refine wp_seq_k fun K2 hK2 => ?_
  refine wp_plain_inv 3 (specs [Is (.slice (some ⟨gx, off, none⟩) 32 cap), Is (.int .i64 32), Is (.bool false)]) (specs_stb ⟨Is.stb _, Is.stb _, Is.stb _, trivial⟩) (by kernel_rfl) ?_ ?_
  · refine ⟨fun a w hB hfr hdep => Step.plain rfl (dMove (R := Is (.slice (some ⟨gx, off, none⟩) 32 cap)) rfl (hfr 0 (by kernel_rfl))),
      fun a w hB hfr hdep => Step.plain rfl (Does.run _ (run_lenO rfl (hdep 0 7 (by kernel_rfl))) rfl),
      fun a w hB hfr hdep => Step.plain rfl (Does.run _ (run_binO rfl (hdep 1 8 (by kernel_rfl)) rfl (by kernel_rfl)) rfl), trivial⟩
  intro u2 hb2
  simp only [List.take, List.drop, FinAll, Act.put, List.setIfInBounds_toArray, List.set_cons_succ, List.set_cons_zero]
  rintro _ rfl _ rfl _ rfl
  have hO2 := (hO1).trans (hb2.mono (hO1).size)
  have m2_1__2 := block_below hb2 (lt_of_heap m2_1) m2_1
  refine hK2 _ _ ?_
  clear hK2 K2
  refine wp_cond_false rfl ?_
  refine wp_skip ?_
  refine hKO1 _ _ ?_
  clear hKO1 KO1
  refine wp_seq_k fun K3 hK3 => ?_
  refine wp_plain_inv 3 (specs [Is (.slice (some ⟨gx, off, none⟩) 32 cap), OwnI u2.heap.size l, OwnI u2.heap.size l]) (specs_stb ⟨Is.stb _, OwnI.stb _ _, OwnI.stb _ _, trivial⟩) (by kernel_rfl) ?_ ?_
  · refine ⟨fun a w hB hfr hdep => Step.plain rfl (dMove (R := Is (.slice (some ⟨gx, off, none⟩) 32 cap)) rfl (hfr 0 (by kernel_rfl))),
      fun a w hB hfr hdep => Step.plain rfl (Does.call 59 #[(a.eval (.tmp 11))] (by kernel_rfl) (rDigitsOwn w hB.size (hdep 0 11 (by kernel_rfl)) (Bts.stb _ _ _ _ hB (Bts.stb _ _ _ _ hO2 hb)) hd hl)),
      fun a w hB hfr hdep => Step.plain rfl (dAssign (R := OwnI u2.heap.size l) rfl (hdep 1 12 (by kernel_rfl))), trivial⟩
  intro u3 hb3
  simp only [List.take, List.drop, FinAll, Act.put, List.setIfInBounds_toArray, List.set_cons_succ, List.set_cons_zero]
  rintro _ rfl v12_3 h12_3 v4_3 h4_3
  have hO3 := (hO2).trans (hb3.mono (hO2).size)
  have m2_1__3 := block_below hb3 (lt_of_heap m2_1__2) m2_1__2
  refine hK3 _ _ ?_
  clear hK3 K3
  obtain ⟨g4, cap4, cur4, hv4, hl4, hrow4, hc4, hc4', hcur⟩ := h4_3
  rw [hl] at hv4 hcur hc4
  subst hv4
  have c31 := cell_of_row _ g4 31 _ _ _ hrow4
  rw [hcur 31 (by omega), ← hcc.out] at c31
  have f31 := frozen_of_row _ g4 31 _ _ hrow4
  have hst := cur_setI hrow4 (by rw [hl]; exact hcur) 31 d (by omega)
  have hOs := (hO3).setCell (p := ⟨g4, 31, none⟩) (by show _ ≤ g4; have := hO1.size; have := hb2.size; omega) (.int .i64 (d : Int))
  have nz : g2_1 ≠ g4 := by have := hb2.size; have := lt_of_heap m2_1; omega
  have hz2 := (heap_setCell_other u3 ⟨g4, 31, none⟩ g2_1 (.int .i64 (d : Int)) nz).trans m2_1__3
  have HOS : Hid _ := hOs
  have HZ2 : Hid _ := hz2
  have HST : Hid _ := hst
  clear hOs hz2 hst
  refine wp_seq_k fun KB hKB => ?_
  have HKB : Hid _ := hKB
  clear hKB
  go_wp2
  refine HKB.out _ _ ?_
  clear HKB KB
  refine wp_seq_k fun KC hKC => ?_
  have HKC : Hid _ := hKC
  clear hKC
  go_wp2
  refine HKC.out _ _ ?_
  clear HKC KC
  have hO := HOS.out
  have hz := HZ2.out
  have hb9 : DRow (l.set 31 d) (.slice (some ⟨g4, 0, none⟩) 32 cap4) (u3.setCell ⟨g4, 31, none⟩ (.int .i64 (d : Int))) := ⟨_, _, by rw [hl1], by rw [hl1]; exact hc4, hc4', fun _ => ⟨g4, 0, rfl, intsAt_cur HST.out.1 HST.out.2⟩⟩
  clear HOS HZ2 HST c31 f31
  generalize u3.setCell ⟨g4, 31, none⟩ (.int .i64 (d : Int)) = uu at hO hz hb9 ⊢
  refine wp_seq_k fun K4 hK4 => ?_
  refine wp_plain_inv 4 (specs [DRow (l.set 31 d), DRow (digs 32 pp), Is (.bool true), Is (.bool true)]) (specs_stb ⟨DRow.stb _, DRow.stb _, Is.stb _, Is.stb _, trivial⟩) (by kernel_rfl) ?_ ?_
  · refine ⟨fun a w hB hfr hdep => Step.plain rfl (dMove (R := DRow (l.set 31 d)) rfl (use (hfr 4 (by kernel_rfl)) ((DRow.stb _) _ _ _ hB hb9))),
      fun a w hB hfr hdep => Step.plain rfl (Does.call 61 #[] (by kernel_rfl) (rP w)),
      fun a w hB hfr hdep => Step.plain rfl (Does.call 60 #[(a.eval (.tmp 23)), (a.eval (.tmp 24))] (by kernel_rfl) (rLess hA w (hdep 0 23 (by kernel_rfl)) (hdep 1 24 (by kernel_rfl)) (by rw [hl1]; decide) (by rw [digs_len]; decide) hd1 (digs_dig _ _))),
      fun a w hB hfr hdep => Step.plain rfl (dAssign (R := Is (.bool true)) rfl (hdep 2 25 (by kernel_rfl))), trivial⟩
  intro u4 hb4
  simp only [List.take, List.drop, FinAll, Act.put, List.setIfInBounds_toArray, List.set_cons_succ, List.set_cons_zero]
  rintro v23_4 h23_4 v24_4 h24_4 _ rfl _ rfl
  have hO4 := (hO).trans (hb4.mono (hO).size)
  have hz__4 := block_below hb4 (lt_of_heap hz) hz
  refine hK4 _ _ ?_
  clear hK4 K4
  refine wp_seq_k fun KO7 hKO7 => ?_
  refine wp_seq_k fun K5 hK5 => ?_
  refine wp_plain_inv 2 (specs [Is (.bool true), Is (.bool false)]) (specs_stb ⟨Is.stb _, Is.stb _, trivial⟩) (by kernel_rfl) ?_ ?_
  · refine ⟨fun a w hB hfr hdep => Step.plain rfl (dMove (R := Is (.bool true)) rfl (hfr 6 (by kernel_rfl))),
      fun a w hB hfr hdep => Step.plain rfl (Does.run _ (run_notO rfl (hdep 0 26 (by kernel_rfl))) rfl), trivial⟩
  intro u5 hb5
  simp only [List.take, List.drop, FinAll, Act.put, List.setIfInBounds_toArray, List.set_cons_succ, List.set_cons_zero]
  rintro _ rfl _ rfl
  have hO5 := (hO4).trans (hb5.mono (hO4).size)
  have hz__5 := block_below hb5 (lt_of_heap hz__4) hz__4
  refine hK5 _ _ ?_
  clear hK5 K5
  refine wp_cond_false rfl ?_
  refine wp_skip ?_
  refine hKO7 _ _ ?_
  clear hKO7 KO7
  refine wp_seq_k fun K6 hK6 => ?_
  refine wp_plain_inv 5 (specs [DRow (l.set 31 d), Is (.bool bb), Tup2 (Is (.agg #[.slice none 0 0, .slice none 0 0])) (Is (.bool false)), Is (.agg #[.slice none 0 0, .slice none 0 0]), Is (.bool false)]) (specs_stb ⟨DRow.stb _, Is.stb _, Tup2.stb (Is.stb _) (Is.stb _), Is.stb _, Is.stb _, trivial⟩) (by kernel_rfl) ?_ ?_
  · refine ⟨fun a w hB hfr hdep => Step.plain rfl (dMove (R := DRow (l.set 31 d)) rfl (use (hfr 4 (by kernel_rfl)) ((DRow.stb _) _ _ _ hB ((DRow.stb _) _ _ _ hb5 ((DRow.stb _) _ _ _ hb4 hb9))))),
      fun a w hB hfr hdep => Step.plain rfl (dMove (R := Is (.bool bb)) rfl (hfr 5 (by kernel_rfl))),
      fun a w hB hfr hdep => Step.plain rfl (Does.call 53 #[(a.eval (.tmp 29)), (a.eval (.tmp 30))] (by kernel_rfl) (rOfErrI hno w (drow_rw hL (hdep 0 29 (by kernel_rfl))) (hdep 1 30 (by kernel_rfl)))),
      fun a w hB hfr hdep => Step.plain rfl (dExt0 rfl (hdep 2 31 (by kernel_rfl))),
      fun a w hB hfr hdep => Step.plain rfl (dExt1 rfl (hdep 2 31 (by kernel_rfl))), trivial⟩
  intro u6 hb6
  simp only [List.take, List.drop, FinAll, Act.put, List.setIfInBounds_toArray, List.set_cons_succ, List.set_cons_zero]
  rintro v29_6 h29_6 _ rfl v31_6 h31_6 _ rfl _ rfl
  have ohz__5 := block_below hb6 (lt_of_heap hz__5) hz__5
  refine wpList_store_row rfl 45 (.tmp 2) (.tmp 32) rfl _ (#[.slice none 0 0, .slice none 0 0]) rfl rfl 45 _ ohz__5 info35 rfl (by simp [Value.oneCell']) ?_
  refine wpList_assign rfl rfl rfl ?_
  simp only [Act.put, Act.eval, Array.getD_eq_getD_getElem?, List.getElem?_toArray, List.getElem?_cons_succ, List.getElem?_cons_zero, Option.getD_some, List.setIfInBounds_toArray, List.set_cons_succ, List.set_cons_zero]
  have n2_6 := setRow_heap _ _ _ (#[.slice none 0 0, .slice none 0 0]) _ _ ohz__5
  have hO6 := setRow_below (hO5.trans (hb6.mono (hO5).size)) lwm2_1 (#[.slice none 0 0, .slice none 0 0])
  refine hK6 _ _ ?_
  clear hK6 K6
  refine wp_ret ?_
  refine bodyPost_ret (v := .tuple #[.agg (#[.slice none 0 0, .slice none 0 0]), .bool false]) ?_ rfl ⟨_, rfl, hO6, ⟨_, _, rfl, rfl, rfl⟩⟩
  exact results_cell_tmp Tryz.results25 _ _ _ 45 _ (0, 0) _ _ rfl rfl n2_6 Tryz.underlying45 rfl (by first | exact info26 | exact info29 | exact info35 | (rw [(Pt4.cells (by assumption)).1]; exact info29) | (rw [cellsP_size (by assumption)]; exact info29))
theorem rReadP (w : World) {l : List Nat} {gx off cap c d : Nat} {bb : Bool} (hb : Bts l (.slice (some ⟨gx, off, none⟩) 32 cap) w) (hl : l.length = 32) (hd : Dig l) (hcc : Hid (c = l.getD 31 0)) (hc256 : c < 256) (hge : decide ((128 : Int) ≤ (c : Int)) = bb) (hrm : Int.tmod (c : Int) 128 = (d : Int)) (hl1 : (l.set 31 d).length = 32) (hd1 : Dig (l.set 31 d)) {p : Pt} (hA : decide (valD (l.set 31 d) < valD (digs 32 pp)) = true) (hL : l.set 31 d = digs 32 p.y.val) (hbp : decide (p.x.val % 2 = 1) = bb) : Ret 25 #[.slice (some ⟨gx, off, none⟩) 32 cap] w (Tup2 (RPt p.x p.y) (Is (.bool true))) := by
  have h32 : ((32 : Int) != 32) = false := rfl
  unfold Ret
  have hO0 : Below w.heap.size w w := Below.refl _ _
  go_enter Tryz.func25, Tryz.ntmps25
  refine wp_seq_k fun K1 hK1 => ?_
  refine wp_plain_inv 2 (specs [Box w.heap.size (#[.slice none 0 0, .slice none 0 0]) 45, Is (.bool false)]) (specs_stb ⟨Box.stb _ _ _, Is.stb _, trivial⟩) (by kernel_rfl) ?_ ?_
  · refine ⟨fun a w hB hfr hdep => Step.plain rfl (dAlloc35 hB.size rfl),
      fun a w hB hfr hdep => Step.plain rfl (dAssign (R := Is (.bool false)) rfl rfl), trivial⟩
  intro u1 hb1
  simp only [List.take, List.drop, FinAll, Act.put, List.setIfInBounds_toArray, List.set_cons_succ, List.set_cons_zero]
  rintro _ ⟨g2_1, rfl, l2_1, m2_1⟩ _ rfl
  have hO1 := (hO0).trans (hb1.mono (hO0).size)
  have lwm2_1 := Nat.le_trans (hO0).size l2_1
  refine hK1 _ _ ?_
  clear hK1 K1
  refine wp_seq_k fun KO1 hKO1 => ?_
  refine wp_seq_k fun K2 hK2 => ?_
  refine wp_plain_inv 3 (specs [Is (.slice (some ⟨gx, off, none⟩) 32 cap), Is (.int .i64 32), Is (.bool false)]) (specs_stb ⟨Is.stb _, Is.stb _, Is.stb _, trivial⟩) (by kernel_rfl) ?_ ?_
  · refine ⟨fun a w hB hfr hdep => Step.plain rfl (dMove (R := Is (.slice (some ⟨gx, off, none⟩) 32 cap)) rfl (hfr 0 (by kernel_rfl))),
      fun a w hB hfr hdep => Step.plain rfl (Does.run _ (run_lenO rfl (hdep 0 7 (by kernel_rfl))) rfl),
      fun a w hB hfr hdep => Step.plain rfl (Does.run _ (run_binO rfl (hdep 1 8 (by kernel_rfl)) rfl (by kernel_rfl)) rfl), trivial⟩
  intro u2 hb2
  simp only [List.take, List.drop, FinAll, Act.put, List.setIfInBounds_toArray, List.set_cons_succ, List.set_cons_zero]
  rintro _ rfl _ rfl _ rfl
  have hO2 := (hO1).trans (hb2.mono (hO1).size)
  have m2_1__2 := block_below hb2 (lt_of_heap m2_1) m2_1
  refine hK2 _ _ ?_
  clear hK2 K2
  refine wp_cond_false rfl ?_
  refine wp_skip ?_
  refine hKO1 _ _ ?_
  clear hKO1 KO1
  refine wp_seq_k fun K3 hK3 => ?_
  refine wp_plain_inv 3 (specs [Is (.slice (some ⟨gx, off, none⟩) 32 cap), OwnI u2.heap.size l, OwnI u2.heap.size l]) (specs_stb ⟨Is.stb _, OwnI.stb _ _, OwnI.stb _ _, trivial⟩) (by kernel_rfl) ?_ ?_
  · refine ⟨fun a w hB hfr hdep => Step.plain rfl (dMove (R := Is (.slice (some ⟨gx, off, none⟩) 32 cap)) rfl (hfr 0 (by kernel_rfl))),
      fun a w hB hfr hdep => Step.plain rfl (Does.call 59 #[(a.eval (.tmp 11))] (by kernel_rfl) (rDigitsOwn w hB.size (hdep 0 11 (by kernel_rfl)) (Bts.stb _ _ _ _ hB (Bts.stb _ _ _ _ hO2 hb)) hd hl)),
      fun a w hB hfr hdep => Step.plain rfl (dAssign (R := OwnI u2.heap.size l) rfl (hdep 1 12 (by kernel_rfl))), trivial⟩
  intro u3 hb3
  simp only [List.take, List.drop, FinAll, Act.put, List.setIfInBounds_toArray, List.set_cons_succ, List.set_cons_zero]
  rintro _ rfl v12_3 h12_3 v4_3 h4_3
  have hO3 := (hO2).trans (hb3.mono (hO2).size)
  have m2_1__3 := block_below hb3 (lt_of_heap m2_1__2) m2_1__2
  refine hK3 _ _ ?_
  clear hK3 K3
  obtain ⟨g4, cap4, cur4, hv4, hl4, hrow4, hc4, hc4', hcur⟩ := h4_3
  rw [hl] at hv4 hcur hc4
  subst hv4
  have c31 := cell_of_row _ g4 31 _ _ _ hrow4
  rw [hcur 31 (by omega), ← hcc.out] at c31
  have f31 := frozen_of_row _ g4 31 _ _ hrow4
  have hst := cur_setI hrow4 (by rw [hl]; exact hcur) 31 d (by omega)
  have hOs := (hO3).setCell (p := ⟨g4, 31, none⟩) (by show _ ≤ g4; have := hO1.size; have := hb2.size; omega) (.int .i64 (d : Int))
  have nz : g2_1 ≠ g4 := by have := hb2.size; have := lt_of_heap m2_1; omega
  have hz2 := (heap_setCell_other u3 ⟨g4, 31, none⟩ g2_1 (.int .i64 (d : Int)) nz).trans m2_1__3
  have HOS : Hid _ := hOs
  have HZ2 : Hid _ := hz2
  have HST : Hid _ := hst
  clear hOs hz2 hst
  refine wp_seq_k fun KB hKB => ?_
  have HKB : Hid _ := hKB
  clear hKB
  go_wp2
  refine HKB.out _ _ ?_
  clear HKB KB
  refine wp_seq_k fun KC hKC => ?_
  have HKC : Hid _ := hKC
  clear hKC
  go_wp2
  refine HKC.out _ _ ?_
  clear HKC KC
  have hO := HOS.out
  have hz := HZ2.out
  have hb9 : DRow (l.set 31 d) (.slice (some ⟨g4, 0, none⟩) 32 cap4) (u3.setCell ⟨g4, 31, none⟩ (.int .i64 (d : Int))) := ⟨_, _, by rw [hl1], by rw [hl1]; exact hc4, hc4', fun _ => ⟨g4, 0, rfl, intsAt_cur HST.out.1 HST.out.2⟩⟩
  clear HOS HZ2 HST c31 f31
  generalize u3.setCell ⟨g4, 31, none⟩ (.int .i64 (d : Int)) = uu at hO hz hb9 ⊢
  refine wp_seq_k fun K4 hK4 => ?_
  refine wp_plain_inv 4 (specs [DRow (l.set 31 d), DRow (digs 32 pp), Is (.bool true), Is (.bool true)]) (specs_stb ⟨DRow.stb _, DRow.stb _, Is.stb _, Is.stb _, trivial⟩) (by kernel_rfl) ?_ ?_
  · refine ⟨fun a w hB hfr hdep => Step.plain rfl (dMove (R := DRow (l.set 31 d)) rfl (use (hfr 4 (by kernel_rfl)) ((DRow.stb _) _ _ _ hB hb9))),
      fun a w hB hfr hdep => Step.plain rfl (Does.call 61 #[] (by kernel_rfl) (rP w)),
      fun a w hB hfr hdep => Step.plain rfl (Does.call 60 #[(a.eval (.tmp 23)), (a.eval (.tmp 24))] (by kernel_rfl) (rLess hA w (hdep 0 23 (by kernel_rfl)) (hdep 1 24 (by kernel_rfl)) (by rw [hl1]; decide) (by rw [digs_len]; decide) hd1 (digs_dig _ _))),
      fun a w hB hfr hdep => Step.plain rfl (dAssign (R := Is (.bool true)) rfl (hdep 2 25 (by kernel_rfl))), trivial⟩
  intro u4 hb4
  simp only [List.take, List.drop, FinAll, Act.put, List.setIfInBounds_toArray, List.set_cons_succ, List.set_cons_zero]
  rintro v23_4 h23_4 v24_4 h24_4 _ rfl _ rfl
  have hO4 := (hO).trans (hb4.mono (hO).size)
  have hz__4 := block_below hb4 (lt_of_heap hz) hz
  refine hK4 _ _ ?_
  clear hK4 K4
  refine wp_seq_k fun KO7 hKO7 => ?_
  refine wp_seq_k fun K5 hK5 => ?_
  refine wp_plain_inv 2 (specs [Is (.bool true), Is (.bool false)]) (specs_stb ⟨Is.stb _, Is.stb _, trivial⟩) (by kernel_rfl) ?_ ?_
  · refine ⟨fun a w hB hfr hdep => Step.plain rfl (dMove (R := Is (.bool true)) rfl (hfr 6 (by kernel_rfl))),
      fun a w hB hfr hdep => Step.plain rfl (Does.run _ (run_notO rfl (hdep 0 26 (by kernel_rfl))) rfl), trivial⟩
  intro u5 hb5
  simp only [List.take, List.drop, FinAll, Act.put, List.setIfInBounds_toArray, List.set_cons_succ, List.set_cons_zero]
  rintro _ rfl _ rfl
  have hO5 := (hO4).trans (hb5.mono (hO4).size)
  have hz__5 := block_below hb5 (lt_of_heap hz__4) hz__4
  refine hK5 _ _ ?_
  clear hK5 K5
  refine wp_cond_false rfl ?_
  refine wp_skip ?_
  refine hKO7 _ _ ?_
  clear hKO7 KO7
  refine wp_seq_k fun K6 hK6 => ?_
  refine wp_plain_inv 5 (specs [DRow (l.set 31 d), Is (.bool bb), Tup2 (RPt (p.x) (p.y)) (Is (.bool true)), RPt (p.x) (p.y), Is (.bool true)]) (specs_stb ⟨DRow.stb _, Is.stb _, Tup2.stb (RPt.stb _ _) (Is.stb _), RPt.stb _ _, Is.stb _, trivial⟩) (by kernel_rfl) ?_ ?_
  · refine ⟨fun a w hB hfr hdep => Step.plain rfl (dMove (R := DRow (l.set 31 d)) rfl (use (hfr 4 (by kernel_rfl)) ((DRow.stb _) _ _ _ hB ((DRow.stb _) _ _ _ hb5 ((DRow.stb _) _ _ _ hb4 hb9))))),
      fun a w hB hfr hdep => Step.plain rfl (dMove (R := Is (.bool bb)) rfl (hfr 5 (by kernel_rfl))),
      fun a w hB hfr hdep => Step.plain rfl (Does.call 53 #[(a.eval (.tmp 29)), (a.eval (.tmp 30))] (by kernel_rfl) (rOfPtI hbp w (drow_rw hL (hdep 0 29 (by kernel_rfl))) (hdep 1 30 (by kernel_rfl)))),
      fun a w hB hfr hdep => Step.plain rfl (dExt0 rfl (hdep 2 31 (by kernel_rfl))),
      fun a w hB hfr hdep => Step.plain rfl (dExt1 rfl (hdep 2 31 (by kernel_rfl))), trivial⟩
  intro u6 hb6
  simp only [List.take, List.drop, FinAll, Act.put, List.setIfInBounds_toArray, List.set_cons_succ, List.set_cons_zero]
  rintro v29_6 h29_6 _ rfl v31_6 h31_6 _ ⟨p32_6, q32_6, rfl, x32_6, y32_6⟩ _ rfl
  have ohz__5 := block_below hb6 (lt_of_heap hz__5) hz__5
  refine wpList_store_row rfl 45 (.tmp 2) (.tmp 32) rfl _ (#[p32_6, q32_6]) rfl rfl 45 _ ohz__5 info35 rfl (rpt_one x32_6 y32_6) ?_
  refine wpList_assign rfl rfl rfl ?_
  simp only [Act.put, Act.eval, Array.getD_eq_getD_getElem?, List.getElem?_toArray, List.getElem?_cons_succ, List.getElem?_cons_zero, Option.getD_some, List.setIfInBounds_toArray, List.set_cons_succ, List.set_cons_zero]
  have xx := Rw.setRow x32_6 ohz__5 nz35 (#[p32_6, q32_6])
  have yy := Rw.setRow y32_6 ohz__5 nz35 (#[p32_6, q32_6])
  have n2_6 := setRow_heap _ _ _ (#[p32_6, q32_6]) _ _ ohz__5
  have hO6 := setRow_below (hO5.trans (hb6.mono (hO5).size)) lwm2_1 (#[p32_6, q32_6])
  refine hK6 _ _ ?_
  clear hK6 K6
  refine wp_ret ?_
  refine bodyPost_ret (v := .tuple #[.agg (#[p32_6, q32_6]), .bool true]) ?_ rfl ⟨_, rfl, hO6, ⟨_, _, rfl, ⟨_, _, rfl, xx, yy⟩, rfl⟩⟩
  exact results_cell_tmp Tryz.results25 _ _ _ 45 _ (0, 0) _ _ rfl rfl n2_6 Tryz.underlying45 rfl (by first | exact info26 | exact info29 | exact info35 | (rw [(Pt4.cells (by assumption)).1]; exact info29) | (rw [cellsP_size (by assumption)]; exact info29))
theorem rem128 (c : Nat) : Int.tmod (c : Int) 128 = ((c % 128 : Nat) : Int) := by
  rw [Int.tmod_eq_emod_of_nonneg (by omega)]; omega
theorem ge128 {c n : Nat} (hc : c < 256) (h : n / t255 = c / 128) : decide ((128 : Int) ≤ (c : Int)) = decide (n / t255 = 1) := by
  rw [decide_eq_decide, h]; omega
/-- The reference reads a point's bytes as it. -/
theorem rReadPt {v : Value} {l : List Nat} {p : Pt} (w : World) (h : Bts l v w) (hl : l.length = 32) (hd : Dig l) (hp : p.enc = valD l) : Ret 25 #[v] w (Tup2 (RPt p.x p.y) (Is (.bool true))) := by
  obtain ⟨a, cap, rfl, hc1, hc2, hv⟩ := id h
  obtain ⟨gx, off, rfl, hb⟩ := hv (by omega)
  rw [hl] at h ⊢
  obtain ⟨q1, q2, q3⟩ := high_bit hl hd
  have h3 := hd 31
  have hy : valD l % t255 = p.y.val := by rw [← hp, p.enc_y]
  have ho : valD l / t255 = p.x.val % 2 := by rw [← hp, p.enc_odd]
  have hds : Dig (l.set 31 (l.getD 31 0 % 128)) := hd.set (by omega)
  exact rReadP w h hl hd rfl h3 (ge128 h3 q1) (rem128 _) (by rw [List.length_set]; exact hl) hds (decide_eq_true (by rw [q2, hy, valPP]; exact p.y.isLt)) (digs_of hds (by rw [List.length_set]; exact hl) (by rw [q2, hy])) (by rw [ho])
theorem rReadErr {v : Value} {l : List Nat} (w : World) (h : Bts l v w) (hl : l.length = 32) (hd : Dig l) (hno : ¬ ∃ p : Pt, p.enc = valD l) : Ret 25 #[v] w (Tup2 (Is (.agg #[.slice none 0 0, .slice none 0 0])) (Is (.bool false))) := by
  obtain ⟨a, cap, rfl, hc1, hc2, hv⟩ := id h
  obtain ⟨gx, off, rfl, hb⟩ := hv (by omega)
  rw [hl] at h ⊢
  obtain ⟨q1, q2, q3⟩ := high_bit hl hd
  have h3 := hd 31
  have hds : Dig (l.set 31 (l.getD 31 0 % 128)) := hd.set (by omega)
  have hls : (l.set 31 (l.getD 31 0 % 128)).length = 32 := by rw [List.length_set]; exact hl
  have hn2 : valD l / t255 < 2 := by rw [q1]; omega
  by_cases c1 : valD l % t255 < pp
  · refine rReadE w h hl hd rfl h3 (ge128 h3 q1) (rem128 _) hls hds (y := fe (valD l % t255)) (decide_eq_true (by rw [q2, valPP]; exact c1)) (digs_of hds hls (by rw [q2, fe_val, Nat.mod_eq_of_lt c1])) ?_
    rintro ⟨p, hy, hb⟩
    refine hno ⟨p, ?_⟩
    unfold Pt.enc
    rw [hy, fe_val, Nat.mod_eq_of_lt c1]
    have : p.x.val % 2 = valD l / t255 := by
      rw [decide_eq_decide] at hb
      omega
    rw [this, Nat.mod_add_div]
  · exact rReadA w h hl hd rfl h3 (ge128 h3 q1) (rem128 _) hls hds (decide_eq_false (by rw [q2, valPP]; exact c1))
end Go.Proofs.YtabgihjffjlfiaaGreatDoor
set_option linter.unusedVariables false
namespace Go.Proofs.YtabgihjffjlfiaaGreatDoor
open Go.RowKit Go.Sort Go.BigFrame EN
set_option maxRecDepth 100000
set_option maxHeartbeats 4000000
theorem negRPt {P : Pt} {v : Value} {w : World} (h : RPt (0 - P.x) P.y v w) : RPt P.neg.x P.neg.y v w := by
  have e : P.neg.x = 0 - P.x := by show -P.x = 0 - P.x; grobner
  rw [e]; exact h
theorem cutH (g off len cap h : Nat) (w : World) (hh : h ≤ cap) : (Instr.sliceAt 22 (.slice (some ⟨g, off, none⟩) len cap) none (some (.int .i64 (h : Int))) none).run Tryz.prog w = .ok (.slice (some ⟨g, off, none⟩) h cap) w := by
  rw [run_cut_h _ _ _ _ _ hh]
  unfold cutA
  split <;> rfl
theorem cutD (g off len cap : Nat) (w : World) (hl : 32 ≤ len) (hh : 64 ≤ cap) : (Instr.sliceAt 22 (.slice (some ⟨g, off, none⟩) len cap) (some (.int .i64 32)) none none).run Tryz.prog w = .ok (.slice (some ⟨g, off + 32, none⟩) (len - 32) (cap - 32)) w := by
  have h := run_cut_l (some ⟨g, off, none⟩) len cap 32 w hl
  unfold cutA at h
  rw [if_neg (by omega)] at h
  exact h
section
variable {ρ : Operand → Value} {o : Oper} {x y : Operand} {w : World}
theorem dTake32 {l : List Nat} (hl : l.length = 64) (ho : o.op = .slice 22 x none (some y) none) (hx : Bts l (ρ x) w) (hy : ρ y = .int .i64 32) : Does Tryz.prog o ρ w (fun v w' => Below w.heap.size w w' ∧ Bts (l.take 32) v w') := by
  obtain ⟨a, cap, e, h1, h2, hv⟩ := hx
  obtain ⟨g, off, rfl, hb⟩ := id (hv (by omega))
  refine Does.run (.slice (some ⟨g, off, none⟩) 32 cap) (Hrun_sliceO (by rw [e]; show (Instr.sliceAt 22 _ none (some (ρ y)) none).run Tryz.prog w = _; rw [hy]; exact cutH g off _ cap 32 w (by omega)) ho) ⟨_, cap, by rw [List.length_take, hl]; rfl, by rw [List.length_take]; omega, h2, hv.take 32⟩
theorem dDrop32 {l : List Nat} (hl : l.length = 64) (ho : o.op = .slice 22 x (some y) none none) (hx : Bts l (ρ x) w) (hy : ρ y = .int .i64 32) : Does Tryz.prog o ρ w (fun v w' => Below w.heap.size w w' ∧ Bts (l.drop 32) v w') := by
  obtain ⟨a, cap, e, h1, h2, hv⟩ := hx
  obtain ⟨g, off, rfl, hb⟩ := id (hv (by omega))
  refine Does.run (.slice (some ⟨g, off + 32, none⟩) (l.length - 32) (cap - 32)) (Hrun_sliceO (by rw [e]; show (Instr.sliceAt 22 _ (some (ρ y)) none none).run Tryz.prog w = _; rw [hy]; exact cutD g off _ cap w (by omega) (by omega)) ho) ⟨_, cap - 32, by rw [List.length_drop], by rw [List.length_drop]; omega, by omega, fun _ => ⟨g, off + 32, rfl, fun i hi => ?_⟩⟩
  rw [List.length_drop] at hi
  rw [show off + 32 + i = off + (32 + i) by omega, hb (32 + i) (by omega), List.getD_eq_getElem?_getD, List.getD_eq_getElem?_getD, List.getElem?_drop]
theorem run_neqStrB {s t : ByteArray} {b : Bool} (hb : (s.toList == t.toList) = !b) (ho : o.op = .binOp .neq 9 x y 9) (hx : ρ x = .string s) (hy : ρ y = .string t) : (execOp ρ o).run Tryz.prog w = .ok (.value (.bool b)) w := by
  simp [execOp, ho, hx, hy, go_sem, hb]
/-- The errors that are wanted. -/
def W3 (lo : Nat) (v : Value) (w : World) : Prop := ∃ g, v = .slice (some ⟨g, 0, none⟩) 3 3 ∧ lo ≤ g ∧ w.heap[g]? = some (.cells #[.int .i64 0, .int .i64 11, .int .i64 10] 23 (0, 0))
theorem W3.stb (lo : Nat) : Stb (W3 lo) := fun _ _ _ hb ⟨g, h1, h2, h3⟩ => ⟨g, h1, h2, block_below hb (lt_of_heap h3) h3⟩
def W3p (k : Nat) (v : Value) (w : World) : Prop := ∃ g, v = .pointer (some ⟨g, 0 + k, none⟩) ∧ w.heap[g]? = some (.cells #[.int .i64 0, .int .i64 11, .int .i64 10] 23 (0, 0))
theorem W3p.stb (k : Nat) : Stb (W3p k) := fun _ _ _ hb ⟨g, h1, h3⟩ => ⟨g, h1, block_below hb (lt_of_heap h3) h3⟩
theorem dW3idx {lo k : Nat} (hk : k < 3) (ho : o.op = .indexAddr 31 x y) (hx : W3 lo (ρ x) w) (hy : ρ y = .int .i64 (k : Int)) : Does Tryz.prog o ρ w (fun v w' => Below w.heap.size w w' ∧ W3p k v w') := by
  obtain ⟨g, e, hl, hr⟩ := hx
  refine Does.run (.pointer (some ⟨g, 0 + k, none⟩)) ?_ ⟨g, rfl, hr⟩
  have hk2 : ¬ (3 : Int) ≤ (k : Int) := by omega
  simp [execOp, ho, e, hy, go_sem]
  intro h3
  exact absurd h3 hk2
theorem dW3load {k : Nat} {n : Int} (hk : (#[.int .i64 0, .int .i64 11, .int .i64 10] : Array Value)[k]? = some (.int .i64 n)) (ho : o.op = .load 23 x) (hx : W3p k (ρ x) w) : Does Tryz.prog o ρ w (fun v w' => Below w.heap.size w w' ∧ Is (.int .i64 n) v w') := by
  obtain ⟨g, e, hr⟩ := hx
  have hc := cell_of_row w g k _ _ _ hr
  rw [hk] at hc
  rw [Nat.zero_add] at e
  exact Does.run (.int .i64 n) (by simp [execOp, ho, e, go_sem, hc, Instr.loadAt, Instr.sureAddr]) rfl
end
theorem dW3 {a : Act} {o : Oper} {w : World} {lo : Nat} (hlo : lo ≤ w.heap.size) (ho : o.op = .buildSlice 31 3 #[(0, .const (.int .i64 0)), (1, .const (.int .i64 11)), (2, .const (.int .i64 10))]) : Does Tryz.prog o a.eval w (fun v w' => Below w.heap.size w w' ∧ W3 lo v w') :=
  Does.new (.slice (some ⟨w.heap.size, 0, none⟩) 3 3) (.cells #[.int .i64 0, .int .i64 11, .int .i64 10] 23) (by simp only [execOp, ho, Act.eval, List.map_toArray, List.map]; kernel_rfl) ⟨_, rfl, hlo, heap_alloc_new _ _⟩
theorem rIsB {v : Value} {l : List Nat} {b : Bool} (hb : isL l = b) (w : World) (h : Bts l v w) (hd : Dig l) (hl : l.length ≤ 10000) : Ret 26 #[v] w (Is (.bool b)) := by
  obtain ⟨a, cap, rfl, h1, h2, hv⟩ := h
  exact (refIs15 a l.length cap l w rfl h1 h2 hl hd hv).mono fun e w' ⟨h, hB⟩ => ⟨_, h, hB, by rw [hb]; rfl⟩
end Go.Proofs.YtabgihjffjlfiaaGreatDoor
set_option linter.unusedVariables false
namespace Go.Proofs.YtabgihjffjlfiaaGreatDoor
open Go.RowKit Go.Sort Go.BigFrame EN
set_option maxRecDepth 100000
set_option maxHeartbeats 2000000
theorem rVerKey {pub m sig : List Nat} {v1 v2 v3 : Value} {B0 : Pt} (hBase : ∀ w, Ret 22 #[] w (RPt B0.x B0.y)) (w : World) (hp : Bts pub v1 w) (hm : Bts m v2 w) (hs : Bts sig v3 w) (hpub : Dig pub) (hmd : Dig m) (hsig : Dig sig) (h12 : ∀ v w, Bts pub v w → Ret 25 #[v] w (Tup2 (Is (.agg #[.slice none 0 0, .slice none 0 0])) (Is (.bool false)))) : Ret 10 #[v1, v2, v3] w (Is (.int .i64 1)) := by
  unfold Ret
  have hO0 : Below w.heap.size w w := Below.refl _ _
  go_enter Tryz.func10, Tryz.ntmps10
  refine wp_seq_k fun K1 hK1 => ?_
  refine wp_plain_inv 1 (specs [Is (.int .i64 0)]) (specs_stb ⟨Is.stb _, trivial⟩) (by kernel_rfl) ?_ ?_
  · refine ⟨fun a w hB hfr hdep => Step.plain rfl (dAssign (R := Is (.int .i64 0)) rfl rfl), trivial⟩
  intro u1 hb1
  simp only [List.take, List.drop, FinAll, Act.put, List.setIfInBounds_toArray, List.set_cons_succ, List.set_cons_zero]
  rintro _ rfl
  have hO1 := (hO0).trans (hb1.mono (hO0).size)
  refine hK1 _ _ ?_
  clear hK1 K1
  refine wp_seq_k fun K2 hK2 => ?_
  refine wp_plain_inv 6 (specs [Bts (pub), Tup2 (Is (.agg #[.slice none 0 0, .slice none 0 0])) (Is (.bool false)), Tup2 (Is (.agg #[.slice none 0 0, .slice none 0 0])) (Is (.bool false)), Is (.agg #[.slice none 0 0, .slice none 0 0]), Is (.bool false), Box u1.heap.size (#[.slice none 0 0, .slice none 0 0]) 45]) (specs_stb ⟨Bts.stb _, Tup2.stb (Is.stb _) (Is.stb _), Tup2.stb (Is.stb _) (Is.stb _), Is.stb _, Is.stb _, Box.stb _ _ _, trivial⟩) (by kernel_rfl) ?_ ?_
  · refine ⟨fun a w hB hfr hdep => Step.plain rfl (dMove (R := Bts (pub)) rfl (use (hfr 0 (by kernel_rfl)) ((Bts.stb _) _ _ _ hB ((Bts.stb _) _ _ _ hb1 hp)))),
      fun a w hB hfr hdep => Step.plain rfl (Does.call 25 #[(a.eval (.tmp 15))] (by kernel_rfl) (h12 _ w (hdep 0 15 (by kernel_rfl)))),
      fun a w hB hfr hdep => Step.plain rfl (dMove (R := Tup2 (Is (.agg #[.slice none 0 0, .slice none 0 0])) (Is (.bool false))) rfl (hdep 1 16 (by kernel_rfl))),
      fun a w hB hfr hdep => Step.plain rfl (dExt0 rfl (hdep 2 14 (by kernel_rfl))),
      fun a w hB hfr hdep => Step.plain rfl (dExt1 rfl (hdep 2 14 (by kernel_rfl))),
      fun a w hB hfr hdep => Step.plain rfl (dAlloc35 hB.size rfl), trivial⟩
  intro u2 hb2
  simp only [List.take, List.drop, FinAll, Act.put, List.setIfInBounds_toArray, List.set_cons_succ, List.set_cons_zero]
  rintro v15_2 h15_2 v16_2 h16_2 v14_2 h14_2 _ rfl _ rfl _ ⟨g7_2, rfl, l7_2, m7_2⟩
  refine wpList_store_row rfl 45 (.tmp 7) (.tmp 17) rfl _ (#[.slice none 0 0, .slice none 0 0]) rfl rfl 45 _ m7_2 info35 rfl (by simp [Value.oneCell']) ?_
  have n7_2 := setRow_heap _ _ _ (#[.slice none 0 0, .slice none 0 0]) _ _ m7_2
  replace hb2 := setRow_below hb2 l7_2 (#[.slice none 0 0, .slice none 0 0])
  generalize hw2_1 : u2.setRow g7_2 (#[.slice none 0 0, .slice none 0 0]) = u2_1 at n7_2 hb2  ⊢
  clear hw2_1 m7_2
  refine wpList_assign rfl rfl rfl ?_
  simp only [Act.put, Act.eval, Array.getD_eq_getD_getElem?, List.getElem?_toArray, List.getElem?_cons_succ, List.getElem?_cons_zero, Option.getD_some, List.setIfInBounds_toArray, List.set_cons_succ, List.set_cons_zero]
  have hO2 := (hO1).trans (hb2.mono (hO1).size)
  have lwn7_2 := Nat.le_trans (hO1).size l7_2
  refine hK2 _ _ ?_
  clear hK2 K2
  refine wp_seq_k fun KO1 hKO1 => ?_
  refine wp_seq_k fun K3 hK3 => ?_
  refine wp_plain_inv 2 (specs [Is (.bool false), Is (.bool true)]) (specs_stb ⟨Is.stb _, Is.stb _, trivial⟩) (by kernel_rfl) ?_ ?_
  · refine ⟨fun a w hB hfr hdep => Step.plain rfl (dMove (R := Is (.bool false)) rfl (hfr 8 (by kernel_rfl))),
      fun a w hB hfr hdep => Step.plain rfl (Does.run _ (run_notO rfl (hdep 0 19 (by kernel_rfl))) rfl), trivial⟩
  intro u3 hb3
  simp only [List.take, List.drop, FinAll, Act.put, List.setIfInBounds_toArray, List.set_cons_succ, List.set_cons_zero]
  rintro _ rfl _ rfl
  have hO3 := (hO2).trans (hb3.mono (hO2).size)
  have n7_2__3 := block_below hb3 (lt_of_heap n7_2) n7_2
  refine hK3 _ _ ?_
  clear hK3 K3
  refine wp_cond_true rfl ?_
  refine wp_seq_k fun K4 hK4 => ?_
  refine wp_plain_inv 1 (specs [Is (.int .i64 1)]) (specs_stb ⟨Is.stb _, trivial⟩) (by kernel_rfl) ?_ ?_
  · refine ⟨fun a w hB hfr hdep => Step.plain rfl (dAssign (R := Is (.int .i64 1)) rfl rfl), trivial⟩
  intro u4 hb4
  simp only [List.take, List.drop, FinAll, Act.put, List.setIfInBounds_toArray, List.set_cons_succ, List.set_cons_zero]
  rintro _ rfl
  have hO4 := (hO3).trans (hb4.mono (hO3).size)
  have n7_2__4 := block_below hb4 (lt_of_heap n7_2__3) n7_2__3
  refine hK4 _ _ ?_
  clear hK4 K4
  refine wp_ret ?_
  simp only [Exit.then]
  refine bodyPost_ret (results_tmp rfl _ _ _) rfl ?_
  exact ⟨_, rfl, hO4, rfl⟩
theorem rVerLen {pub m sig : List Nat} {v1 v2 v3 : Value} {B0 : Pt} (hBase : ∀ w, Ret 22 #[] w (RPt B0.x B0.y)) (w : World) (hp : Bts pub v1 w) (hm : Bts m v2 w) (hs : Bts sig v3 w) (hpub : Dig pub) (hmd : Dig m) (hsig : Dig sig) {P : Pt} (hP : P.enc = valD pub) (hp32 : pub.length = 32) {n : Nat} (hsn : sig.length = n) (hn : n ≠ 64) : Ret 10 #[v1, v2, v3] w (Is (.int .i64 2)) := by
  unfold Ret
  have hO0 : Below w.heap.size w w := Below.refl _ _
  go_enter Tryz.func10, Tryz.ntmps10
  refine wp_seq_k fun K1 hK1 => ?_
  refine wp_plain_inv 1 (specs [Is (.int .i64 0)]) (specs_stb ⟨Is.stb _, trivial⟩) (by kernel_rfl) ?_ ?_
  · refine ⟨fun a w hB hfr hdep => Step.plain rfl (dAssign (R := Is (.int .i64 0)) rfl rfl), trivial⟩
  intro u1 hb1
  simp only [List.take, List.drop, FinAll, Act.put, List.setIfInBounds_toArray, List.set_cons_succ, List.set_cons_zero]
  rintro _ rfl
  have hO1 := (hO0).trans (hb1.mono (hO0).size)
  refine hK1 _ _ ?_
  clear hK1 K1
  refine wp_seq_k fun K2 hK2 => ?_
  refine wp_plain_inv 6 (specs [Bts (pub), Tup2 (RPt ((P).x) ((P).y)) (Is (.bool true)), Tup2 (RPt ((P).x) ((P).y)) (Is (.bool true)), RPt ((P).x) ((P).y), Is (.bool true), Box u1.heap.size (#[.slice none 0 0, .slice none 0 0]) 45]) (specs_stb ⟨Bts.stb _, Tup2.stb (RPt.stb _ _) (Is.stb _), Tup2.stb (RPt.stb _ _) (Is.stb _), RPt.stb _ _, Is.stb _, Box.stb _ _ _, trivial⟩) (by kernel_rfl) ?_ ?_
  · refine ⟨fun a w hB hfr hdep => Step.plain rfl (dMove (R := Bts (pub)) rfl (use (hfr 0 (by kernel_rfl)) ((Bts.stb _) _ _ _ hB ((Bts.stb _) _ _ _ hb1 hp)))),
      fun a w hB hfr hdep => Step.plain rfl (Does.call 25 #[(a.eval (.tmp 15))] (by kernel_rfl) (rReadPt w (hdep 0 15 (by kernel_rfl)) hp32 hpub hP)),
      fun a w hB hfr hdep => Step.plain rfl (dMove (R := Tup2 (RPt ((P).x) ((P).y)) (Is (.bool true))) rfl (hdep 1 16 (by kernel_rfl))),
      fun a w hB hfr hdep => Step.plain rfl (dExt0 rfl (hdep 2 14 (by kernel_rfl))),
      fun a w hB hfr hdep => Step.plain rfl (dExt1 rfl (hdep 2 14 (by kernel_rfl))),
      fun a w hB hfr hdep => Step.plain rfl (dAlloc35 hB.size rfl), trivial⟩
  intro u2 hb2
  simp only [List.take, List.drop, FinAll, Act.put, List.setIfInBounds_toArray, List.set_cons_succ, List.set_cons_zero]
  rintro v15_2 h15_2 v16_2 h16_2 v14_2 h14_2 _ ⟨p17_2, q17_2, rfl, x17_2, y17_2⟩ _ rfl _ ⟨g7_2, rfl, l7_2, m7_2⟩
  refine wpList_store_row rfl 45 (.tmp 7) (.tmp 17) rfl _ (#[p17_2, q17_2]) rfl rfl 45 _ m7_2 info35 rfl (rpt_one x17_2 y17_2) ?_
  have n7_2 := setRow_heap _ _ _ (#[p17_2, q17_2]) _ _ m7_2
  replace hb2 := setRow_below hb2 l7_2 (#[p17_2, q17_2])
  replace x17_2 := Rw.setRow x17_2 m7_2 nz35 (#[p17_2, q17_2])
  replace y17_2 := Rw.setRow y17_2 m7_2 nz35 (#[p17_2, q17_2])
  generalize hw2_1 : u2.setRow g7_2 (#[p17_2, q17_2]) = u2_1 at n7_2 hb2 x17_2 y17_2  ⊢
  clear hw2_1 m7_2
  refine wpList_assign rfl rfl rfl ?_
  simp only [Act.put, Act.eval, Array.getD_eq_getD_getElem?, List.getElem?_toArray, List.getElem?_cons_succ, List.getElem?_cons_zero, Option.getD_some, List.setIfInBounds_toArray, List.set_cons_succ, List.set_cons_zero]
  have hO2 := (hO1).trans (hb2.mono (hO1).size)
  have lwn7_2 := Nat.le_trans (hO1).size l7_2
  refine hK2 _ _ ?_
  clear hK2 K2
  refine wp_seq_k fun KO1 hKO1 => ?_
  refine wp_seq_k fun K3 hK3 => ?_
  refine wp_plain_inv 2 (specs [Is (.bool true), Is (.bool false)]) (specs_stb ⟨Is.stb _, Is.stb _, trivial⟩) (by kernel_rfl) ?_ ?_
  · refine ⟨fun a w hB hfr hdep => Step.plain rfl (dMove (R := Is (.bool true)) rfl (hfr 8 (by kernel_rfl))),
      fun a w hB hfr hdep => Step.plain rfl (Does.run _ (run_notO rfl (hdep 0 19 (by kernel_rfl))) rfl), trivial⟩
  intro u3 hb3
  simp only [List.take, List.drop, FinAll, Act.put, List.setIfInBounds_toArray, List.set_cons_succ, List.set_cons_zero]
  rintro _ rfl _ rfl
  have hO3 := (hO2).trans (hb3.mono (hO2).size)
  have n7_2__3 := block_below hb3 (lt_of_heap n7_2) n7_2
  refine hK3 _ _ ?_
  clear hK3 K3
  refine wp_cond_false rfl ?_
  refine wp_skip ?_
  refine hKO1 _ _ ?_
  clear hKO1 KO1
  refine wp_seq_k fun KO2 hKO2 => ?_
  refine wp_seq_k fun K4 hK4 => ?_
  refine wp_plain_inv 3 (specs [Bts (sig), Is (.int .i64 (n : Int)), Is (.bool true)]) (specs_stb ⟨Bts.stb _, Is.stb _, Is.stb _, trivial⟩) (by kernel_rfl) ?_ ?_
  · refine ⟨fun a w hB hfr hdep => Step.plain rfl (dMove (R := Bts (sig)) rfl (use (hfr 2 (by kernel_rfl)) ((Bts.stb _) _ _ _ hB ((Bts.stb _) _ _ _ hb3 ((Bts.stb _) _ _ _ hb2 ((Bts.stb _) _ _ _ hb1 hs)))))),
      fun a w hB hfr hdep => Step.plain rfl (dLenB hsn rfl (hdep 0 21 (by kernel_rfl))),
      fun a w hB hfr hdep => Step.plain rfl (Does.run _ (run_neqN (n := n) (k := 64) hn rfl (hdep 1 22 (by kernel_rfl)) rfl) rfl), trivial⟩
  intro u4 hb4
  simp only [List.take, List.drop, FinAll, Act.put, List.setIfInBounds_toArray, List.set_cons_succ, List.set_cons_zero]
  rintro v21_4 h21_4 _ rfl _ rfl
  have hO4 := (hO3).trans (hb4.mono (hO3).size)
  have n7_2__4 := block_below hb4 (lt_of_heap n7_2__3) n7_2__3
  refine hK4 _ _ ?_
  clear hK4 K4
  refine wp_cond_true rfl ?_
  refine wp_seq_k fun K5 hK5 => ?_
  refine wp_plain_inv 1 (specs [Is (.int .i64 2)]) (specs_stb ⟨Is.stb _, trivial⟩) (by kernel_rfl) ?_ ?_
  · refine ⟨fun a w hB hfr hdep => Step.plain rfl (dAssign (R := Is (.int .i64 2)) rfl rfl), trivial⟩
  intro u5 hb5
  simp only [List.take, List.drop, FinAll, Act.put, List.setIfInBounds_toArray, List.set_cons_succ, List.set_cons_zero]
  rintro _ rfl
  have hO5 := (hO4).trans (hb5.mono (hO4).size)
  have n7_2__5 := block_below hb5 (lt_of_heap n7_2__4) n7_2__4
  refine hK5 _ _ ?_
  clear hK5 K5
  refine wp_ret ?_
  simp only [Exit.then]
  refine bodyPost_ret (results_tmp rfl _ _ _) rfl ?_
  exact ⟨_, rfl, hO5, rfl⟩
theorem rVerIs {pub m sig : List Nat} {v1 v2 v3 : Value} {B0 : Pt} (hBase : ∀ w, Ret 22 #[] w (RPt B0.x B0.y)) (w : World) (hp : Bts pub v1 w) (hm : Bts m v2 w) (hs : Bts sig v3 w) (hpub : Dig pub) (hmd : Dig m) (hsig : Dig sig) {P : Pt} (hP : P.enc = valD pub) (hp32 : pub.length = 32) (hs64 : sig.length = 64) (hIs : isL ((sig).drop 32) = false) : Ret 10 #[v1, v2, v3] w (Is (.int .i64 2)) := by
  unfold Ret
  have hO0 : Below w.heap.size w w := Below.refl _ _
  go_enter Tryz.func10, Tryz.ntmps10
  refine wp_seq_k fun K1 hK1 => ?_
  refine wp_plain_inv 1 (specs [Is (.int .i64 0)]) (specs_stb ⟨Is.stb _, trivial⟩) (by kernel_rfl) ?_ ?_
  · refine ⟨fun a w hB hfr hdep => Step.plain rfl (dAssign (R := Is (.int .i64 0)) rfl rfl), trivial⟩
  intro u1 hb1
  simp only [List.take, List.drop, FinAll, Act.put, List.setIfInBounds_toArray, List.set_cons_succ, List.set_cons_zero]
  rintro _ rfl
  have hO1 := (hO0).trans (hb1.mono (hO0).size)
  refine hK1 _ _ ?_
  clear hK1 K1
  refine wp_seq_k fun K2 hK2 => ?_
  refine wp_plain_inv 6 (specs [Bts (pub), Tup2 (RPt ((P).x) ((P).y)) (Is (.bool true)), Tup2 (RPt ((P).x) ((P).y)) (Is (.bool true)), RPt ((P).x) ((P).y), Is (.bool true), Box u1.heap.size (#[.slice none 0 0, .slice none 0 0]) 45]) (specs_stb ⟨Bts.stb _, Tup2.stb (RPt.stb _ _) (Is.stb _), Tup2.stb (RPt.stb _ _) (Is.stb _), RPt.stb _ _, Is.stb _, Box.stb _ _ _, trivial⟩) (by kernel_rfl) ?_ ?_
  · refine ⟨fun a w hB hfr hdep => Step.plain rfl (dMove (R := Bts (pub)) rfl (use (hfr 0 (by kernel_rfl)) ((Bts.stb _) _ _ _ hB ((Bts.stb _) _ _ _ hb1 hp)))),
      fun a w hB hfr hdep => Step.plain rfl (Does.call 25 #[(a.eval (.tmp 15))] (by kernel_rfl) (rReadPt w (hdep 0 15 (by kernel_rfl)) hp32 hpub hP)),
      fun a w hB hfr hdep => Step.plain rfl (dMove (R := Tup2 (RPt ((P).x) ((P).y)) (Is (.bool true))) rfl (hdep 1 16 (by kernel_rfl))),
      fun a w hB hfr hdep => Step.plain rfl (dExt0 rfl (hdep 2 14 (by kernel_rfl))),
      fun a w hB hfr hdep => Step.plain rfl (dExt1 rfl (hdep 2 14 (by kernel_rfl))),
      fun a w hB hfr hdep => Step.plain rfl (dAlloc35 hB.size rfl), trivial⟩
  intro u2 hb2
  simp only [List.take, List.drop, FinAll, Act.put, List.setIfInBounds_toArray, List.set_cons_succ, List.set_cons_zero]
  rintro v15_2 h15_2 v16_2 h16_2 v14_2 h14_2 _ ⟨p17_2, q17_2, rfl, x17_2, y17_2⟩ _ rfl _ ⟨g7_2, rfl, l7_2, m7_2⟩
  refine wpList_store_row rfl 45 (.tmp 7) (.tmp 17) rfl _ (#[p17_2, q17_2]) rfl rfl 45 _ m7_2 info35 rfl (rpt_one x17_2 y17_2) ?_
  have n7_2 := setRow_heap _ _ _ (#[p17_2, q17_2]) _ _ m7_2
  replace hb2 := setRow_below hb2 l7_2 (#[p17_2, q17_2])
  replace x17_2 := Rw.setRow x17_2 m7_2 nz35 (#[p17_2, q17_2])
  replace y17_2 := Rw.setRow y17_2 m7_2 nz35 (#[p17_2, q17_2])
  generalize hw2_1 : u2.setRow g7_2 (#[p17_2, q17_2]) = u2_1 at n7_2 hb2 x17_2 y17_2  ⊢
  clear hw2_1 m7_2
  refine wpList_assign rfl rfl rfl ?_
  simp only [Act.put, Act.eval, Array.getD_eq_getD_getElem?, List.getElem?_toArray, List.getElem?_cons_succ, List.getElem?_cons_zero, Option.getD_some, List.setIfInBounds_toArray, List.set_cons_succ, List.set_cons_zero]
  have hO2 := (hO1).trans (hb2.mono (hO1).size)
  have lwn7_2 := Nat.le_trans (hO1).size l7_2
  refine hK2 _ _ ?_
  clear hK2 K2
  refine wp_seq_k fun KO1 hKO1 => ?_
  refine wp_seq_k fun K3 hK3 => ?_
  refine wp_plain_inv 2 (specs [Is (.bool true), Is (.bool false)]) (specs_stb ⟨Is.stb _, Is.stb _, trivial⟩) (by kernel_rfl) ?_ ?_
  · refine ⟨fun a w hB hfr hdep => Step.plain rfl (dMove (R := Is (.bool true)) rfl (hfr 8 (by kernel_rfl))),
      fun a w hB hfr hdep => Step.plain rfl (Does.run _ (run_notO rfl (hdep 0 19 (by kernel_rfl))) rfl), trivial⟩
  intro u3 hb3
  simp only [List.take, List.drop, FinAll, Act.put, List.setIfInBounds_toArray, List.set_cons_succ, List.set_cons_zero]
  rintro _ rfl _ rfl
  have hO3 := (hO2).trans (hb3.mono (hO2).size)
  have n7_2__3 := block_below hb3 (lt_of_heap n7_2) n7_2
  refine hK3 _ _ ?_
  clear hK3 K3
  refine wp_cond_false rfl ?_
  refine wp_skip ?_
  refine hKO1 _ _ ?_
  clear hKO1 KO1
  refine wp_seq_k fun KO2 hKO2 => ?_
  refine wp_seq_k fun K4 hK4 => ?_
  refine wp_plain_inv 3 (specs [Bts (sig), Is (.int .i64 64), Is (.bool false)]) (specs_stb ⟨Bts.stb _, Is.stb _, Is.stb _, trivial⟩) (by kernel_rfl) ?_ ?_
  · refine ⟨fun a w hB hfr hdep => Step.plain rfl (dMove (R := Bts (sig)) rfl (use (hfr 2 (by kernel_rfl)) ((Bts.stb _) _ _ _ hB ((Bts.stb _) _ _ _ hb3 ((Bts.stb _) _ _ _ hb2 ((Bts.stb _) _ _ _ hb1 hs)))))),
      fun a w hB hfr hdep => Step.plain rfl (dLenB hs64 rfl (hdep 0 21 (by kernel_rfl))),
      fun a w hB hfr hdep => Step.plain rfl (Does.run _ (run_binO rfl (hdep 1 22 (by kernel_rfl)) rfl (by kernel_rfl)) rfl), trivial⟩
  intro u4 hb4
  simp only [List.take, List.drop, FinAll, Act.put, List.setIfInBounds_toArray, List.set_cons_succ, List.set_cons_zero]
  rintro v21_4 h21_4 _ rfl _ rfl
  have hO4 := (hO3).trans (hb4.mono (hO3).size)
  have n7_2__4 := block_below hb4 (lt_of_heap n7_2__3) n7_2__3
  refine hK4 _ _ ?_
  clear hK4 K4
  refine wp_cond_false rfl ?_
  refine wp_skip ?_
  refine hKO2 _ _ ?_
  clear hKO2 KO2
  refine wp_seq_k fun K5 hK5 => ?_
  refine wp_plain_inv 4 (specs [Bts (sig), Bts ((sig).drop 32), Is (.bool false), Is (.bool false)]) (specs_stb ⟨Bts.stb _, Bts.stb _, Is.stb _, Is.stb _, trivial⟩) (by kernel_rfl) ?_ ?_
  · refine ⟨fun a w hB hfr hdep => Step.plain rfl (dMove (R := Bts (sig)) rfl (use (hfr 2 (by kernel_rfl)) ((Bts.stb _) _ _ _ hB ((Bts.stb _) _ _ _ hb4 ((Bts.stb _) _ _ _ hb3 ((Bts.stb _) _ _ _ hb2 ((Bts.stb _) _ _ _ hb1 hs))))))),
      fun a w hB hfr hdep => Step.plain rfl (dDrop32 hs64 rfl (hdep 0 24 (by kernel_rfl)) rfl),
      fun a w hB hfr hdep => Step.plain rfl (Does.call 26 #[(a.eval (.tmp 25))] (by kernel_rfl) (rIsB hIs w (hdep 1 25 (by kernel_rfl)) (Dig.drop hsig _) (by rw [List.length_drop]; omega))),
      fun a w hB hfr hdep => Step.plain rfl (dAssign (R := Is (.bool false)) rfl (hdep 2 26 (by kernel_rfl))), trivial⟩
  intro u5 hb5
  simp only [List.take, List.drop, FinAll, Act.put, List.setIfInBounds_toArray, List.set_cons_succ, List.set_cons_zero]
  rintro v24_5 h24_5 v25_5 h25_5 _ rfl _ rfl
  have hO5 := (hO4).trans (hb5.mono (hO4).size)
  have n7_2__5 := block_below hb5 (lt_of_heap n7_2__4) n7_2__4
  refine hK5 _ _ ?_
  clear hK5 K5
  refine wp_seq_k fun KO3 hKO3 => ?_
  refine wp_seq_k fun K6 hK6 => ?_
  refine wp_plain_inv 2 (specs [Is (.bool false), Is (.bool true)]) (specs_stb ⟨Is.stb _, Is.stb _, trivial⟩) (by kernel_rfl) ?_ ?_
  · refine ⟨fun a w hB hfr hdep => Step.plain rfl (dMove (R := Is (.bool false)) rfl (hfr 9 (by kernel_rfl))),
      fun a w hB hfr hdep => Step.plain rfl (Does.run _ (run_notO rfl (hdep 0 27 (by kernel_rfl))) rfl), trivial⟩
  intro u6 hb6
  simp only [List.take, List.drop, FinAll, Act.put, List.setIfInBounds_toArray, List.set_cons_succ, List.set_cons_zero]
  rintro _ rfl _ rfl
  have hO6 := (hO5).trans (hb6.mono (hO5).size)
  have n7_2__6 := block_below hb6 (lt_of_heap n7_2__5) n7_2__5
  refine hK6 _ _ ?_
  clear hK6 K6
  refine wp_cond_true rfl ?_
  refine wp_seq_k fun K7 hK7 => ?_
  refine wp_plain_inv 1 (specs [Is (.int .i64 2)]) (specs_stb ⟨Is.stb _, trivial⟩) (by kernel_rfl) ?_ ?_
  · refine ⟨fun a w hB hfr hdep => Step.plain rfl (dAssign (R := Is (.int .i64 2)) rfl rfl), trivial⟩
  intro u7 hb7
  simp only [List.take, List.drop, FinAll, Act.put, List.setIfInBounds_toArray, List.set_cons_succ, List.set_cons_zero]
  rintro _ rfl
  have hO7 := (hO6).trans (hb7.mono (hO6).size)
  have n7_2__7 := block_below hb7 (lt_of_heap n7_2__6) n7_2__6
  refine hK7 _ _ ?_
  clear hK7 K7
  refine wp_ret ?_
  simp only [Exit.then]
  refine bodyPost_ret (results_tmp rfl _ _ _) rfl ?_
  exact ⟨_, rfl, hO7, rfl⟩
theorem rVerNo {pub m sig : List Nat} {v1 v2 v3 : Value} {B0 : Pt} (hBase : ∀ w, Ret 22 #[] w (RPt B0.x B0.y)) (w : World) (hp : Bts pub v1 w) (hm : Bts m v2 w) (hs : Bts sig v3 w) (hpub : Dig pub) (hmd : Dig m) (hsig : Dig sig) {P : Pt} (hP : P.enc = valD pub) (hp32 : pub.length = 32) (hs64 : sig.length = 64) (hml : m.length ≤ 50000) (hIs : isL ((sig).drop 32) = true) (hE : ((strOf (digs 32 (Pt.enc ((B0.nm (valD ((sig).drop 32))).add (((P).neg).nm (valD (digs 32 (numL ((sig).take 32 ++ pub ++ m))))))))).toList == (strOf ((sig).take 32)).toList) = !true) : Ret 10 #[v1, v2, v3] w (Is (.int .i64 2)) := by
  unfold Ret
  have hO0 : Below w.heap.size w w := Below.refl _ _
  go_enter Tryz.func10, Tryz.ntmps10
  refine wp_seq_k fun K1 hK1 => ?_
  refine wp_plain_inv 1 (specs [Is (.int .i64 0)]) (specs_stb ⟨Is.stb _, trivial⟩) (by kernel_rfl) ?_ ?_
  · refine ⟨fun a w hB hfr hdep => Step.plain rfl (dAssign (R := Is (.int .i64 0)) rfl rfl), trivial⟩
  intro u1 hb1
  simp only [List.take, List.drop, FinAll, Act.put, List.setIfInBounds_toArray, List.set_cons_succ, List.set_cons_zero]
  rintro _ rfl
  have hO1 := (hO0).trans (hb1.mono (hO0).size)
  refine hK1 _ _ ?_
  clear hK1 K1
  refine wp_seq_k fun K2 hK2 => ?_
  refine wp_plain_inv 6 (specs [Bts (pub), Tup2 (RPt ((P).x) ((P).y)) (Is (.bool true)), Tup2 (RPt ((P).x) ((P).y)) (Is (.bool true)), RPt ((P).x) ((P).y), Is (.bool true), Box u1.heap.size (#[.slice none 0 0, .slice none 0 0]) 45]) (specs_stb ⟨Bts.stb _, Tup2.stb (RPt.stb _ _) (Is.stb _), Tup2.stb (RPt.stb _ _) (Is.stb _), RPt.stb _ _, Is.stb _, Box.stb _ _ _, trivial⟩) (by kernel_rfl) ?_ ?_
  · refine ⟨fun a w hB hfr hdep => Step.plain rfl (dMove (R := Bts (pub)) rfl (use (hfr 0 (by kernel_rfl)) ((Bts.stb _) _ _ _ hB ((Bts.stb _) _ _ _ hb1 hp)))),
      fun a w hB hfr hdep => Step.plain rfl (Does.call 25 #[(a.eval (.tmp 15))] (by kernel_rfl) (rReadPt w (hdep 0 15 (by kernel_rfl)) hp32 hpub hP)),
      fun a w hB hfr hdep => Step.plain rfl (dMove (R := Tup2 (RPt ((P).x) ((P).y)) (Is (.bool true))) rfl (hdep 1 16 (by kernel_rfl))),
      fun a w hB hfr hdep => Step.plain rfl (dExt0 rfl (hdep 2 14 (by kernel_rfl))),
      fun a w hB hfr hdep => Step.plain rfl (dExt1 rfl (hdep 2 14 (by kernel_rfl))),
      fun a w hB hfr hdep => Step.plain rfl (dAlloc35 hB.size rfl), trivial⟩
  intro u2 hb2
  simp only [List.take, List.drop, FinAll, Act.put, List.setIfInBounds_toArray, List.set_cons_succ, List.set_cons_zero]
  rintro v15_2 h15_2 v16_2 h16_2 v14_2 h14_2 _ ⟨p17_2, q17_2, rfl, x17_2, y17_2⟩ _ rfl _ ⟨g7_2, rfl, l7_2, m7_2⟩
  refine wpList_store_row rfl 45 (.tmp 7) (.tmp 17) rfl _ (#[p17_2, q17_2]) rfl rfl 45 _ m7_2 info35 rfl (rpt_one x17_2 y17_2) ?_
  have n7_2 := setRow_heap _ _ _ (#[p17_2, q17_2]) _ _ m7_2
  replace hb2 := setRow_below hb2 l7_2 (#[p17_2, q17_2])
  replace x17_2 := Rw.setRow x17_2 m7_2 nz35 (#[p17_2, q17_2])
  replace y17_2 := Rw.setRow y17_2 m7_2 nz35 (#[p17_2, q17_2])
  generalize hw2_1 : u2.setRow g7_2 (#[p17_2, q17_2]) = u2_1 at n7_2 hb2 x17_2 y17_2  ⊢
  clear hw2_1 m7_2
  refine wpList_assign rfl rfl rfl ?_
  simp only [Act.put, Act.eval, Array.getD_eq_getD_getElem?, List.getElem?_toArray, List.getElem?_cons_succ, List.getElem?_cons_zero, Option.getD_some, List.setIfInBounds_toArray, List.set_cons_succ, List.set_cons_zero]
  have hO2 := (hO1).trans (hb2.mono (hO1).size)
  have lwn7_2 := Nat.le_trans (hO1).size l7_2
  refine hK2 _ _ ?_
  clear hK2 K2
  refine wp_seq_k fun KO1 hKO1 => ?_
  refine wp_seq_k fun K3 hK3 => ?_
  refine wp_plain_inv 2 (specs [Is (.bool true), Is (.bool false)]) (specs_stb ⟨Is.stb _, Is.stb _, trivial⟩) (by kernel_rfl) ?_ ?_
  · refine ⟨fun a w hB hfr hdep => Step.plain rfl (dMove (R := Is (.bool true)) rfl (hfr 8 (by kernel_rfl))),
      fun a w hB hfr hdep => Step.plain rfl (Does.run _ (run_notO rfl (hdep 0 19 (by kernel_rfl))) rfl), trivial⟩
  intro u3 hb3
  simp only [List.take, List.drop, FinAll, Act.put, List.setIfInBounds_toArray, List.set_cons_succ, List.set_cons_zero]
  rintro _ rfl _ rfl
  have hO3 := (hO2).trans (hb3.mono (hO2).size)
  have n7_2__3 := block_below hb3 (lt_of_heap n7_2) n7_2
  refine hK3 _ _ ?_
  clear hK3 K3
  refine wp_cond_false rfl ?_
  refine wp_skip ?_
  refine hKO1 _ _ ?_
  clear hKO1 KO1
  refine wp_seq_k fun KO2 hKO2 => ?_
  refine wp_seq_k fun K4 hK4 => ?_
  refine wp_plain_inv 3 (specs [Bts (sig), Is (.int .i64 64), Is (.bool false)]) (specs_stb ⟨Bts.stb _, Is.stb _, Is.stb _, trivial⟩) (by kernel_rfl) ?_ ?_
  · refine ⟨fun a w hB hfr hdep => Step.plain rfl (dMove (R := Bts (sig)) rfl (use (hfr 2 (by kernel_rfl)) ((Bts.stb _) _ _ _ hB ((Bts.stb _) _ _ _ hb3 ((Bts.stb _) _ _ _ hb2 ((Bts.stb _) _ _ _ hb1 hs)))))),
      fun a w hB hfr hdep => Step.plain rfl (dLenB hs64 rfl (hdep 0 21 (by kernel_rfl))),
      fun a w hB hfr hdep => Step.plain rfl (Does.run _ (run_binO rfl (hdep 1 22 (by kernel_rfl)) rfl (by kernel_rfl)) rfl), trivial⟩
  intro u4 hb4
  simp only [List.take, List.drop, FinAll, Act.put, List.setIfInBounds_toArray, List.set_cons_succ, List.set_cons_zero]
  rintro v21_4 h21_4 _ rfl _ rfl
  have hO4 := (hO3).trans (hb4.mono (hO3).size)
  have n7_2__4 := block_below hb4 (lt_of_heap n7_2__3) n7_2__3
  refine hK4 _ _ ?_
  clear hK4 K4
  refine wp_cond_false rfl ?_
  refine wp_skip ?_
  refine hKO2 _ _ ?_
  clear hKO2 KO2
  refine wp_seq_k fun K5 hK5 => ?_
  refine wp_plain_inv 4 (specs [Bts (sig), Bts ((sig).drop 32), Is (.bool true), Is (.bool true)]) (specs_stb ⟨Bts.stb _, Bts.stb _, Is.stb _, Is.stb _, trivial⟩) (by kernel_rfl) ?_ ?_
  · refine ⟨fun a w hB hfr hdep => Step.plain rfl (dMove (R := Bts (sig)) rfl (use (hfr 2 (by kernel_rfl)) ((Bts.stb _) _ _ _ hB ((Bts.stb _) _ _ _ hb4 ((Bts.stb _) _ _ _ hb3 ((Bts.stb _) _ _ _ hb2 ((Bts.stb _) _ _ _ hb1 hs))))))),
      fun a w hB hfr hdep => Step.plain rfl (dDrop32 hs64 rfl (hdep 0 24 (by kernel_rfl)) rfl),
      fun a w hB hfr hdep => Step.plain rfl (Does.call 26 #[(a.eval (.tmp 25))] (by kernel_rfl) (rIsB hIs w (hdep 1 25 (by kernel_rfl)) (Dig.drop hsig _) (by rw [List.length_drop]; omega))),
      fun a w hB hfr hdep => Step.plain rfl (dAssign (R := Is (.bool true)) rfl (hdep 2 26 (by kernel_rfl))), trivial⟩
  intro u5 hb5
  simp only [List.take, List.drop, FinAll, Act.put, List.setIfInBounds_toArray, List.set_cons_succ, List.set_cons_zero]
  rintro v24_5 h24_5 v25_5 h25_5 _ rfl _ rfl
  have hO5 := (hO4).trans (hb5.mono (hO4).size)
  have n7_2__5 := block_below hb5 (lt_of_heap n7_2__4) n7_2__4
  refine hK5 _ _ ?_
  clear hK5 K5
  refine wp_seq_k fun KO3 hKO3 => ?_
  refine wp_seq_k fun K6 hK6 => ?_
  refine wp_plain_inv 2 (specs [Is (.bool true), Is (.bool false)]) (specs_stb ⟨Is.stb _, Is.stb _, trivial⟩) (by kernel_rfl) ?_ ?_
  · refine ⟨fun a w hB hfr hdep => Step.plain rfl (dMove (R := Is (.bool true)) rfl (hfr 9 (by kernel_rfl))),
      fun a w hB hfr hdep => Step.plain rfl (Does.run _ (run_notO rfl (hdep 0 27 (by kernel_rfl))) rfl), trivial⟩
  intro u6 hb6
  simp only [List.take, List.drop, FinAll, Act.put, List.setIfInBounds_toArray, List.set_cons_succ, List.set_cons_zero]
  rintro _ rfl _ rfl
  have hO6 := (hO5).trans (hb6.mono (hO5).size)
  have n7_2__6 := block_below hb6 (lt_of_heap n7_2__5) n7_2__5
  refine hK6 _ _ ?_
  clear hK6 K6
  refine wp_cond_false rfl ?_
  refine wp_skip ?_
  refine hKO3 _ _ ?_
  clear hKO3 KO3
  refine wp_seq_k fun K7 hK7 => ?_
  refine wp_plain_inv 6 (specs [Bts (sig), Bts ((sig).take 32), Bts (pub), Bts (m), Bts (digs 32 (numL ((sig).take 32 ++ pub ++ m))), Bts (digs 32 (numL ((sig).take 32 ++ pub ++ m)))]) (specs_stb ⟨Bts.stb _, Bts.stb _, Bts.stb _, Bts.stb _, Bts.stb _, Bts.stb _, trivial⟩) (by kernel_rfl) ?_ ?_
  · refine ⟨fun a w hB hfr hdep => Step.plain rfl (dMove (R := Bts (sig)) rfl (use (hfr 2 (by kernel_rfl)) ((Bts.stb _) _ _ _ hB ((Bts.stb _) _ _ _ hb6 ((Bts.stb _) _ _ _ hb5 ((Bts.stb _) _ _ _ hb4 ((Bts.stb _) _ _ _ hb3 ((Bts.stb _) _ _ _ hb2 ((Bts.stb _) _ _ _ hb1 hs))))))))),
      fun a w hB hfr hdep => Step.plain rfl (dTake32 hs64 rfl (hdep 0 29 (by kernel_rfl)) rfl),
      fun a w hB hfr hdep => Step.plain rfl (dMove (R := Bts (pub)) rfl (use (hfr 0 (by kernel_rfl)) ((Bts.stb _) _ _ _ hB ((Bts.stb _) _ _ _ hb6 ((Bts.stb _) _ _ _ hb5 ((Bts.stb _) _ _ _ hb4 ((Bts.stb _) _ _ _ hb3 ((Bts.stb _) _ _ _ hb2 ((Bts.stb _) _ _ _ hb1 hp))))))))),
      fun a w hB hfr hdep => Step.plain rfl (dMove (R := Bts (m)) rfl (use (hfr 1 (by kernel_rfl)) ((Bts.stb _) _ _ _ hB ((Bts.stb _) _ _ _ hb6 ((Bts.stb _) _ _ _ hb5 ((Bts.stb _) _ _ _ hb4 ((Bts.stb _) _ _ _ hb3 ((Bts.stb _) _ _ _ hb2 ((Bts.stb _) _ _ _ hb1 hm))))))))),
      fun a w hB hfr hdep => Step.plain rfl (Does.call 19 #[(a.eval (.tmp 30)), (a.eval (.tmp 31)), (a.eval (.tmp 32))] (by kernel_rfl) (rHash w (hdep 1 30 (by kernel_rfl)) (hdep 2 31 (by kernel_rfl)) (hdep 3 32 (by kernel_rfl)) (Dig.take hsig _) hpub hmd (by rw [List.length_take]; omega) (by rw [List.length_take]; omega))),
      fun a w hB hfr hdep => Step.plain rfl (dAssign (R := Bts (digs 32 (numL ((sig).take 32 ++ pub ++ m)))) rfl (hdep 4 33 (by kernel_rfl))), trivial⟩
  intro u7 hb7
  simp only [List.take, List.drop, FinAll, Act.put, List.setIfInBounds_toArray, List.set_cons_succ, List.set_cons_zero]
  rintro v29_7 h29_7 v30_7 h30_7 v31_7 h31_7 v32_7 h32_7 v33_7 h33_7 v10_7 h10_7
  have hO7 := (hO6).trans (hb7.mono (hO6).size)
  have n7_2__7 := block_below hb7 (lt_of_heap n7_2__6) n7_2__6
  refine hK7 _ _ ?_
  clear hK7 K7
  refine wp_seq_k fun K8 hK8 => ?_
  refine wp_region_inv 5 (specs [RPt ((B0).x) ((B0).y), Bts (sig), Bts ((sig).drop 32), RPt (((B0).nm (valD ((sig).drop 32))).x) (((B0).nm (valD ((sig).drop 32))).y), Box u7.heap.size (#[.slice none 0 0, .slice none 0 0]) 45]) (by kernel_rfl) (specs_stb ⟨RPt.stb _ _, Bts.stb _, Bts.stb _, RPt.stb _ _, Box.stb _ _ _, trivial⟩) (by kernel_rfl) ?_ ?_
  · refine ⟨fun a w hB hfr hdep => Step.plain rfl (Does.call 22 #[] (by kernel_rfl) (hBase w)),
      fun a w hB hfr hdep => Step.plain rfl (dMove (R := Bts (sig)) rfl (use (hfr 2 (by kernel_rfl)) ((Bts.stb _) _ _ _ hB ((Bts.stb _) _ _ _ hb7 ((Bts.stb _) _ _ _ hb6 ((Bts.stb _) _ _ _ hb5 ((Bts.stb _) _ _ _ hb4 ((Bts.stb _) _ _ _ hb3 ((Bts.stb _) _ _ _ hb2 ((Bts.stb _) _ _ _ hb1 hs)))))))))),
      fun a w hB hfr hdep => Step.plain rfl (dDrop32 hs64 rfl (hdep 1 35 (by kernel_rfl)) rfl),
      fun a w hB hfr hdep => Step.plain rfl (Does.call 21 #[(a.eval (.tmp 34)), (a.eval (.tmp 36))] (by kernel_rfl) (rMulPt (P := B0) w (hdep 0 34 (by kernel_rfl)) (hdep 2 36 (by kernel_rfl)) (Dig.drop hsig _) (by rw [List.length_drop]; omega))),
      fun a w hB hfr hdep => Step.plain rfl (dAlloc35 hB.size rfl), trivial⟩
  intro u8 hb8
  simp only [List.take, List.drop, FinAll, Act.put, List.setIfInBounds_toArray, List.set_cons_succ, List.set_cons_zero]
  rintro v34_8 h34_8 v35_8 h35_8 v36_8 h36_8 _ ⟨p37_8, q37_8, rfl, x37_8, y37_8⟩ _ ⟨g11_8, rfl, l11_8, m11_8⟩
  refine wpList_store_row rfl 45 (.tmp 11) (.tmp 37) rfl _ (#[p37_8, q37_8]) rfl rfl 45 _ m11_8 info35 rfl (rpt_one x37_8 y37_8) ?_
  have n11_8 := setRow_heap _ _ _ (#[p37_8, q37_8]) _ _ m11_8
  replace hb8 := setRow_below hb8 l11_8 (#[p37_8, q37_8])
  replace x37_8 := Rw.setRow x37_8 m11_8 nz35 (#[p37_8, q37_8])
  replace y37_8 := Rw.setRow y37_8 m11_8 nz35 (#[p37_8, q37_8])
  generalize hw8_1 : u8.setRow g11_8 (#[p37_8, q37_8]) = u8_1 at n11_8 hb8 x37_8 y37_8  ⊢
  clear hw8_1 m11_8
  have hO8 := (hO7).trans (hb8.mono (hO7).size)
  have n7_2__8 := block_below hb8 (lt_of_heap n7_2__7) n7_2__7
  have lwn11_8 := Nat.le_trans (hO7).size l11_8
  refine hK8 _ _ ?_
  clear hK8 K8
  refine wp_seq_k fun K9 hK9 => ?_
  refine wp_region_inv 8 (specs [Rw (0), Is (.pointer (some ⟨g7_2, 0, none⟩)), Rw ((P).x), Rw ((0) - (P.x)), Is (.pointer (some ⟨g7_2, 1, none⟩)), Rw ((P).y), RPt ((0) - (P.x)) ((P).y), Box u8_1.heap.size (#[.slice none 0 0, .slice none 0 0]) 45]) (by kernel_rfl) (specs_stb ⟨Rw.stb _, Is.stb _, Rw.stb _, Rw.stb _, Is.stb _, Rw.stb _, RPt.stb _ _, Box.stb _ _ _, trivial⟩) (by kernel_rfl) ?_ ?_
  · refine ⟨fun a w hB hfr hdep => Step.plain rfl (Does.call 28 #[.int .i64 0] (by kernel_rfl) (rInt w 0 (by decide))),
      fun a w hB hfr hdep => Step.plain rfl (dFa35 g7_2 0 (by decide) rfl (hfr 7 (by kernel_rfl))),
      fun a w hB hfr hdep => Step.plain rfl (dLoadR0 (Rw.stb _ _ _ _ hb8 (Rw.stb _ _ _ _ hb7 (Rw.stb _ _ _ _ hb6 (Rw.stb _ _ _ _ hb5 (Rw.stb _ _ _ _ hb4 (Rw.stb _ _ _ _ hb3 x17_2)))))) hB (Rw.stb _ _ _ _ hb8 (Rw.stb _ _ _ _ hb7 (Rw.stb _ _ _ _ hb6 (Rw.stb _ _ _ _ hb5 (Rw.stb _ _ _ _ hb4 (Rw.stb _ _ _ _ hb3 y17_2)))))) (block_below hB (lt_of_heap n7_2__8) n7_2__8) rfl (hdep 1 39 (by kernel_rfl))),
      fun a w hB hfr hdep => Step.plain rfl (Does.call 27 #[(a.eval (.tmp 38)), (a.eval (.tmp 40))] (by kernel_rfl) (rSub (x := 0) (y := P.x) w (hdep 0 38 (by kernel_rfl)) (hdep 2 40 (by kernel_rfl)))),
      fun a w hB hfr hdep => Step.plain rfl (dFa35 g7_2 1 (by decide) rfl (hfr 7 (by kernel_rfl))),
      fun a w hB hfr hdep => Step.plain rfl (dLoadR1 (Rw.stb _ _ _ _ hb8 (Rw.stb _ _ _ _ hb7 (Rw.stb _ _ _ _ hb6 (Rw.stb _ _ _ _ hb5 (Rw.stb _ _ _ _ hb4 (Rw.stb _ _ _ _ hb3 x17_2)))))) hB (Rw.stb _ _ _ _ hb8 (Rw.stb _ _ _ _ hb7 (Rw.stb _ _ _ _ hb6 (Rw.stb _ _ _ _ hb5 (Rw.stb _ _ _ _ hb4 (Rw.stb _ _ _ _ hb3 y17_2)))))) (block_below hB (lt_of_heap n7_2__8) n7_2__8) rfl (hdep 4 42 (by kernel_rfl))),
      fun a w hB hfr hdep => Step.plain rfl (dBuild35 rfl (hdep 3 41 (by kernel_rfl)) (hdep 5 43 (by kernel_rfl))),
      fun a w hB hfr hdep => Step.plain rfl (dAlloc35 hB.size rfl), trivial⟩
  intro u9 hb9
  simp only [List.take, List.drop, FinAll, Act.put, List.setIfInBounds_toArray, List.set_cons_succ, List.set_cons_zero]
  rintro v38_9 h38_9 _ rfl v40_9 h40_9 v41_9 h41_9 _ rfl v43_9 h43_9 _ ⟨p44_9, q44_9, rfl, x44_9, y44_9⟩ _ ⟨g12_9, rfl, l12_9, m12_9⟩
  refine wpList_store_row rfl 45 (.tmp 12) (.tmp 44) rfl _ (#[p44_9, q44_9]) rfl rfl 45 _ m12_9 info35 rfl (rpt_one x44_9 y44_9) ?_
  have n12_9 := setRow_heap _ _ _ (#[p44_9, q44_9]) _ _ m12_9
  replace hb9 := setRow_below hb9 l12_9 (#[p44_9, q44_9])
  replace x44_9 := Rw.setRow x44_9 m12_9 nz35 (#[p44_9, q44_9])
  replace y44_9 := Rw.setRow y44_9 m12_9 nz35 (#[p44_9, q44_9])
  generalize hw9_1 : u9.setRow g12_9 (#[p44_9, q44_9]) = u9_1 at n12_9 hb9 x44_9 y44_9  ⊢
  clear hw9_1 m12_9
  have hO9 := (hO8).trans (hb9.mono (hO8).size)
  have n7_2__9 := block_below hb9 (lt_of_heap n7_2__8) n7_2__8
  have n11_8__9 := block_below hb9 (lt_of_heap n11_8) n11_8
  have lwn12_9 := Nat.le_trans (hO8).size l12_9
  refine hK9 _ _ ?_
  clear hK9 K9
  refine wp_seq_k fun K10 hK10 => ?_
  refine wp_region_inv 6 (specs [RPt (((B0).nm (valD ((sig).drop 32))).x) (((B0).nm (valD ((sig).drop 32))).y), RPt ((0) - (P.x)) ((P).y), Bts (digs 32 (numL ((sig).take 32 ++ pub ++ m))), RPt ((((P).neg).nm (valD (digs 32 (numL ((sig).take 32 ++ pub ++ m))))).x) ((((P).neg).nm (valD (digs 32 (numL ((sig).take 32 ++ pub ++ m))))).y), RPt ((((B0).nm (valD ((sig).drop 32))).add (((P).neg).nm (valD (digs 32 (numL ((sig).take 32 ++ pub ++ m)))))).x) ((((B0).nm (valD ((sig).drop 32))).add (((P).neg).nm (valD (digs 32 (numL ((sig).take 32 ++ pub ++ m)))))).y), Box u9_1.heap.size (#[.slice none 0 0, .slice none 0 0]) 45]) (by kernel_rfl) (specs_stb ⟨RPt.stb _ _, RPt.stb _ _, Bts.stb _, RPt.stb _ _, RPt.stb _ _, Box.stb _ _ _, trivial⟩) (by kernel_rfl) ?_ ?_
  · refine ⟨fun a w hB hfr hdep => Step.plain rfl (dLoadRPt (Rw.stb _ _ _ _ hb9 x37_8) hB (Rw.stb _ _ _ _ hb9 y37_8) (block_below hB (lt_of_heap n11_8__9) n11_8__9) rfl (hfr 11 (by kernel_rfl))),
      fun a w hB hfr hdep => Step.plain rfl (dLoadRPt x44_9 hB y44_9 (block_below hB (lt_of_heap n12_9) n12_9) rfl (hfr 12 (by kernel_rfl))),
      fun a w hB hfr hdep => Step.plain rfl (dMove (R := Bts (digs 32 (numL ((sig).take 32 ++ pub ++ m)))) rfl (use (hfr 10 (by kernel_rfl)) ((Bts.stb _) _ _ _ hB ((Bts.stb _) _ _ _ hb9 ((Bts.stb _) _ _ _ hb8 h10_7))))),
      fun a w hB hfr hdep => Step.plain rfl (Does.call 21 #[(a.eval (.tmp 46)), (a.eval (.tmp 47))] (by kernel_rfl) (rMulPt (P := (P).neg) w (negRPt (hdep 1 46 (by kernel_rfl))) (hdep 2 47 (by kernel_rfl)) (digs_dig _ _) (by rw [digs_len]; omega))),
      fun a w hB hfr hdep => Step.plain rfl (Does.call 29 #[(a.eval (.tmp 45)), (a.eval (.tmp 48))] (by kernel_rfl) (rAddPt w (hdep 0 45 (by kernel_rfl)) (hdep 3 48 (by kernel_rfl)))),
      fun a w hB hfr hdep => Step.plain rfl (dAlloc35 hB.size rfl), trivial⟩
  intro u10 hb10
  simp only [List.take, List.drop, FinAll, Act.put, List.setIfInBounds_toArray, List.set_cons_succ, List.set_cons_zero]
  rintro v45_10 h45_10 v46_10 h46_10 v47_10 h47_10 v48_10 h48_10 _ ⟨p49_10, q49_10, rfl, x49_10, y49_10⟩ _ ⟨g13_10, rfl, l13_10, m13_10⟩
  refine wpList_store_row rfl 45 (.tmp 13) (.tmp 49) rfl _ (#[p49_10, q49_10]) rfl rfl 45 _ m13_10 info35 rfl (rpt_one x49_10 y49_10) ?_
  have n13_10 := setRow_heap _ _ _ (#[p49_10, q49_10]) _ _ m13_10
  replace hb10 := setRow_below hb10 l13_10 (#[p49_10, q49_10])
  replace x49_10 := Rw.setRow x49_10 m13_10 nz35 (#[p49_10, q49_10])
  replace y49_10 := Rw.setRow y49_10 m13_10 nz35 (#[p49_10, q49_10])
  generalize hw10_1 : u10.setRow g13_10 (#[p49_10, q49_10]) = u10_1 at n13_10 hb10 x49_10 y49_10  ⊢
  clear hw10_1 m13_10
  have hO10 := (hO9).trans (hb10.mono (hO9).size)
  have n7_2__10 := block_below hb10 (lt_of_heap n7_2__9) n7_2__9
  have n11_8__10 := block_below hb10 (lt_of_heap n11_8__9) n11_8__9
  have n12_9__10 := block_below hb10 (lt_of_heap n12_9) n12_9
  have lwn13_10 := Nat.le_trans (hO9).size l13_10
  refine hK10 _ _ ?_
  clear hK10 K10
  refine wp_seq_k fun KO4 hKO4 => ?_
  refine wp_seq_k fun K11 hK11 => ?_
  refine wp_region_inv 7 (specs [RPt ((((B0).nm (valD ((sig).drop 32))).add (((P).neg).nm (valD (digs 32 (numL ((sig).take 32 ++ pub ++ m)))))).x) ((((B0).nm (valD ((sig).drop 32))).add (((P).neg).nm (valD (digs 32 (numL ((sig).take 32 ++ pub ++ m)))))).y), OwnC u10_1.heap.size (digs 32 (Pt.enc (((B0).nm (valD ((sig).drop 32))).add (((P).neg).nm (valD (digs 32 (numL ((sig).take 32 ++ pub ++ m)))))))), Is (.string (strOf (digs 32 (Pt.enc (((B0).nm (valD ((sig).drop 32))).add (((P).neg).nm (valD (digs 32 (numL ((sig).take 32 ++ pub ++ m)))))))))), Bts (sig), Bts ((sig).take 32), Is (.string (strOf ((sig).take 32))), Is (.bool true)]) (by kernel_rfl) (specs_stb ⟨RPt.stb _ _, OwnC.stb _ _, Is.stb _, Bts.stb _, Bts.stb _, Is.stb _, Is.stb _, trivial⟩) (by kernel_rfl) ?_ ?_
  · refine ⟨fun a w hB hfr hdep => Step.plain rfl (dLoadRPt x49_10 hB y49_10 (block_below hB (lt_of_heap n13_10) n13_10) rfl (hfr 13 (by kernel_rfl))),
      fun a w hB hfr hdep => Step.plain rfl (Does.call 20 #[(a.eval (.tmp 50))] (by kernel_rfl) (ownCLo hB.size (rPBytes w (hdep 0 50 (by kernel_rfl))))),
      fun a w hB hfr hdep => Step.plain rfl (dConvBts rfl (OwnC.bts (hdep 1 51 (by kernel_rfl)))),
      fun a w hB hfr hdep => Step.plain rfl (dMove (R := Bts (sig)) rfl (use (hfr 2 (by kernel_rfl)) ((Bts.stb _) _ _ _ hB ((Bts.stb _) _ _ _ hb10 ((Bts.stb _) _ _ _ hb9 ((Bts.stb _) _ _ _ hb8 ((Bts.stb _) _ _ _ hb7 ((Bts.stb _) _ _ _ hb6 ((Bts.stb _) _ _ _ hb5 ((Bts.stb _) _ _ _ hb4 ((Bts.stb _) _ _ _ hb3 ((Bts.stb _) _ _ _ hb2 ((Bts.stb _) _ _ _ hb1 hs))))))))))))),
      fun a w hB hfr hdep => Step.plain rfl (dTake32 hs64 rfl (hdep 3 53 (by kernel_rfl)) rfl),
      fun a w hB hfr hdep => Step.plain rfl (dConvBts rfl (hdep 4 54 (by kernel_rfl))),
      fun a w hB hfr hdep => Step.plain rfl (Does.run _ (run_neqStrB (b := true) hE rfl (hdep 2 52 (by kernel_rfl)) (hdep 5 55 (by kernel_rfl))) rfl), trivial⟩
  intro u11 hb11
  simp only [List.take, List.drop, FinAll, Act.put, List.setIfInBounds_toArray, List.set_cons_succ, List.set_cons_zero]
  rintro v50_11 h50_11 v51_11 h51_11 _ rfl v53_11 h53_11 v54_11 h54_11 _ rfl _ rfl
  have hO11 := (hO10).trans (hb11.mono (hO10).size)
  have n7_2__11 := block_below hb11 (lt_of_heap n7_2__10) n7_2__10
  have n11_8__11 := block_below hb11 (lt_of_heap n11_8__10) n11_8__10
  have n12_9__11 := block_below hb11 (lt_of_heap n12_9__10) n12_9__10
  have n13_10__11 := block_below hb11 (lt_of_heap n13_10) n13_10
  refine hK11 _ _ ?_
  clear hK11 K11
  refine wp_cond_true rfl ?_
  refine wp_seq_k fun K12 hK12 => ?_
  refine wp_plain_inv 1 (specs [Is (.int .i64 2)]) (specs_stb ⟨Is.stb _, trivial⟩) (by kernel_rfl) ?_ ?_
  · refine ⟨fun a w hB hfr hdep => Step.plain rfl (dAssign (R := Is (.int .i64 2)) rfl rfl), trivial⟩
  intro u12 hb12
  simp only [List.take, List.drop, FinAll, Act.put, List.setIfInBounds_toArray, List.set_cons_succ, List.set_cons_zero]
  rintro _ rfl
  have hO12 := (hO11).trans (hb12.mono (hO11).size)
  have n7_2__12 := block_below hb12 (lt_of_heap n7_2__11) n7_2__11
  have n11_8__12 := block_below hb12 (lt_of_heap n11_8__11) n11_8__11
  have n12_9__12 := block_below hb12 (lt_of_heap n12_9__11) n12_9__11
  have n13_10__12 := block_below hb12 (lt_of_heap n13_10__11) n13_10__11
  refine hK12 _ _ ?_
  clear hK12 K12
  refine wp_ret ?_
  simp only [Exit.then]
  refine bodyPost_ret (results_tmp rfl _ _ _) rfl ?_
  exact ⟨_, rfl, hO12, rfl⟩
theorem rVerOk {pub m sig : List Nat} {v1 v2 v3 : Value} {B0 : Pt} (hBase : ∀ w, Ret 22 #[] w (RPt B0.x B0.y)) (w : World) (hp : Bts pub v1 w) (hm : Bts m v2 w) (hs : Bts sig v3 w) (hpub : Dig pub) (hmd : Dig m) (hsig : Dig sig) {P : Pt} (hP : P.enc = valD pub) (hp32 : pub.length = 32) (hs64 : sig.length = 64) (hml : m.length ≤ 50000) (hIs : isL ((sig).drop 32) = true) (hE : ((strOf (digs 32 (Pt.enc ((B0.nm (valD ((sig).drop 32))).add (((P).neg).nm (valD (digs 32 (numL ((sig).take 32 ++ pub ++ m))))))))).toList == (strOf ((sig).take 32)).toList) = !false) : Ret 10 #[v1, v2, v3] w (Is (.int .i64 0)) := by
  unfold Ret
  have hO0 : Below w.heap.size w w := Below.refl _ _
  go_enter Tryz.func10, Tryz.ntmps10
  refine wp_seq_k fun K1 hK1 => ?_
  refine wp_plain_inv 1 (specs [Is (.int .i64 0)]) (specs_stb ⟨Is.stb _, trivial⟩) (by kernel_rfl) ?_ ?_
  · refine ⟨fun a w hB hfr hdep => Step.plain rfl (dAssign (R := Is (.int .i64 0)) rfl rfl), trivial⟩
  intro u1 hb1
  simp only [List.take, List.drop, FinAll, Act.put, List.setIfInBounds_toArray, List.set_cons_succ, List.set_cons_zero]
  rintro _ rfl
  have hO1 := (hO0).trans (hb1.mono (hO0).size)
  refine hK1 _ _ ?_
  clear hK1 K1
  refine wp_seq_k fun K2 hK2 => ?_
  refine wp_plain_inv 6 (specs [Bts (pub), Tup2 (RPt ((P).x) ((P).y)) (Is (.bool true)), Tup2 (RPt ((P).x) ((P).y)) (Is (.bool true)), RPt ((P).x) ((P).y), Is (.bool true), Box u1.heap.size (#[.slice none 0 0, .slice none 0 0]) 45]) (specs_stb ⟨Bts.stb _, Tup2.stb (RPt.stb _ _) (Is.stb _), Tup2.stb (RPt.stb _ _) (Is.stb _), RPt.stb _ _, Is.stb _, Box.stb _ _ _, trivial⟩) (by kernel_rfl) ?_ ?_
  · refine ⟨fun a w hB hfr hdep => Step.plain rfl (dMove (R := Bts (pub)) rfl (use (hfr 0 (by kernel_rfl)) ((Bts.stb _) _ _ _ hB ((Bts.stb _) _ _ _ hb1 hp)))),
      fun a w hB hfr hdep => Step.plain rfl (Does.call 25 #[(a.eval (.tmp 15))] (by kernel_rfl) (rReadPt w (hdep 0 15 (by kernel_rfl)) hp32 hpub hP)),
      fun a w hB hfr hdep => Step.plain rfl (dMove (R := Tup2 (RPt ((P).x) ((P).y)) (Is (.bool true))) rfl (hdep 1 16 (by kernel_rfl))),
      fun a w hB hfr hdep => Step.plain rfl (dExt0 rfl (hdep 2 14 (by kernel_rfl))),
      fun a w hB hfr hdep => Step.plain rfl (dExt1 rfl (hdep 2 14 (by kernel_rfl))),
      fun a w hB hfr hdep => Step.plain rfl (dAlloc35 hB.size rfl), trivial⟩
  intro u2 hb2
  simp only [List.take, List.drop, FinAll, Act.put, List.setIfInBounds_toArray, List.set_cons_succ, List.set_cons_zero]
  rintro v15_2 h15_2 v16_2 h16_2 v14_2 h14_2 _ ⟨p17_2, q17_2, rfl, x17_2, y17_2⟩ _ rfl _ ⟨g7_2, rfl, l7_2, m7_2⟩
  refine wpList_store_row rfl 45 (.tmp 7) (.tmp 17) rfl _ (#[p17_2, q17_2]) rfl rfl 45 _ m7_2 info35 rfl (rpt_one x17_2 y17_2) ?_
  have n7_2 := setRow_heap _ _ _ (#[p17_2, q17_2]) _ _ m7_2
  replace hb2 := setRow_below hb2 l7_2 (#[p17_2, q17_2])
  replace x17_2 := Rw.setRow x17_2 m7_2 nz35 (#[p17_2, q17_2])
  replace y17_2 := Rw.setRow y17_2 m7_2 nz35 (#[p17_2, q17_2])
  generalize hw2_1 : u2.setRow g7_2 (#[p17_2, q17_2]) = u2_1 at n7_2 hb2 x17_2 y17_2  ⊢
  clear hw2_1 m7_2
  refine wpList_assign rfl rfl rfl ?_
  simp only [Act.put, Act.eval, Array.getD_eq_getD_getElem?, List.getElem?_toArray, List.getElem?_cons_succ, List.getElem?_cons_zero, Option.getD_some, List.setIfInBounds_toArray, List.set_cons_succ, List.set_cons_zero]
  have hO2 := (hO1).trans (hb2.mono (hO1).size)
  have lwn7_2 := Nat.le_trans (hO1).size l7_2
  refine hK2 _ _ ?_
  clear hK2 K2
  refine wp_seq_k fun KO1 hKO1 => ?_
  refine wp_seq_k fun K3 hK3 => ?_
  refine wp_plain_inv 2 (specs [Is (.bool true), Is (.bool false)]) (specs_stb ⟨Is.stb _, Is.stb _, trivial⟩) (by kernel_rfl) ?_ ?_
  · refine ⟨fun a w hB hfr hdep => Step.plain rfl (dMove (R := Is (.bool true)) rfl (hfr 8 (by kernel_rfl))),
      fun a w hB hfr hdep => Step.plain rfl (Does.run _ (run_notO rfl (hdep 0 19 (by kernel_rfl))) rfl), trivial⟩
  intro u3 hb3
  simp only [List.take, List.drop, FinAll, Act.put, List.setIfInBounds_toArray, List.set_cons_succ, List.set_cons_zero]
  rintro _ rfl _ rfl
  have hO3 := (hO2).trans (hb3.mono (hO2).size)
  have n7_2__3 := block_below hb3 (lt_of_heap n7_2) n7_2
  refine hK3 _ _ ?_
  clear hK3 K3
  refine wp_cond_false rfl ?_
  refine wp_skip ?_
  refine hKO1 _ _ ?_
  clear hKO1 KO1
  refine wp_seq_k fun KO2 hKO2 => ?_
  refine wp_seq_k fun K4 hK4 => ?_
  refine wp_plain_inv 3 (specs [Bts (sig), Is (.int .i64 64), Is (.bool false)]) (specs_stb ⟨Bts.stb _, Is.stb _, Is.stb _, trivial⟩) (by kernel_rfl) ?_ ?_
  · refine ⟨fun a w hB hfr hdep => Step.plain rfl (dMove (R := Bts (sig)) rfl (use (hfr 2 (by kernel_rfl)) ((Bts.stb _) _ _ _ hB ((Bts.stb _) _ _ _ hb3 ((Bts.stb _) _ _ _ hb2 ((Bts.stb _) _ _ _ hb1 hs)))))),
      fun a w hB hfr hdep => Step.plain rfl (dLenB hs64 rfl (hdep 0 21 (by kernel_rfl))),
      fun a w hB hfr hdep => Step.plain rfl (Does.run _ (run_binO rfl (hdep 1 22 (by kernel_rfl)) rfl (by kernel_rfl)) rfl), trivial⟩
  intro u4 hb4
  simp only [List.take, List.drop, FinAll, Act.put, List.setIfInBounds_toArray, List.set_cons_succ, List.set_cons_zero]
  rintro v21_4 h21_4 _ rfl _ rfl
  have hO4 := (hO3).trans (hb4.mono (hO3).size)
  have n7_2__4 := block_below hb4 (lt_of_heap n7_2__3) n7_2__3
  refine hK4 _ _ ?_
  clear hK4 K4
  refine wp_cond_false rfl ?_
  refine wp_skip ?_
  refine hKO2 _ _ ?_
  clear hKO2 KO2
  refine wp_seq_k fun K5 hK5 => ?_
  refine wp_plain_inv 4 (specs [Bts (sig), Bts ((sig).drop 32), Is (.bool true), Is (.bool true)]) (specs_stb ⟨Bts.stb _, Bts.stb _, Is.stb _, Is.stb _, trivial⟩) (by kernel_rfl) ?_ ?_
  · refine ⟨fun a w hB hfr hdep => Step.plain rfl (dMove (R := Bts (sig)) rfl (use (hfr 2 (by kernel_rfl)) ((Bts.stb _) _ _ _ hB ((Bts.stb _) _ _ _ hb4 ((Bts.stb _) _ _ _ hb3 ((Bts.stb _) _ _ _ hb2 ((Bts.stb _) _ _ _ hb1 hs))))))),
      fun a w hB hfr hdep => Step.plain rfl (dDrop32 hs64 rfl (hdep 0 24 (by kernel_rfl)) rfl),
      fun a w hB hfr hdep => Step.plain rfl (Does.call 26 #[(a.eval (.tmp 25))] (by kernel_rfl) (rIsB hIs w (hdep 1 25 (by kernel_rfl)) (Dig.drop hsig _) (by rw [List.length_drop]; omega))),
      fun a w hB hfr hdep => Step.plain rfl (dAssign (R := Is (.bool true)) rfl (hdep 2 26 (by kernel_rfl))), trivial⟩
  intro u5 hb5
  simp only [List.take, List.drop, FinAll, Act.put, List.setIfInBounds_toArray, List.set_cons_succ, List.set_cons_zero]
  rintro v24_5 h24_5 v25_5 h25_5 _ rfl _ rfl
  have hO5 := (hO4).trans (hb5.mono (hO4).size)
  have n7_2__5 := block_below hb5 (lt_of_heap n7_2__4) n7_2__4
  refine hK5 _ _ ?_
  clear hK5 K5
  refine wp_seq_k fun KO3 hKO3 => ?_
  refine wp_seq_k fun K6 hK6 => ?_
  refine wp_plain_inv 2 (specs [Is (.bool true), Is (.bool false)]) (specs_stb ⟨Is.stb _, Is.stb _, trivial⟩) (by kernel_rfl) ?_ ?_
  · refine ⟨fun a w hB hfr hdep => Step.plain rfl (dMove (R := Is (.bool true)) rfl (hfr 9 (by kernel_rfl))),
      fun a w hB hfr hdep => Step.plain rfl (Does.run _ (run_notO rfl (hdep 0 27 (by kernel_rfl))) rfl), trivial⟩
  intro u6 hb6
  simp only [List.take, List.drop, FinAll, Act.put, List.setIfInBounds_toArray, List.set_cons_succ, List.set_cons_zero]
  rintro _ rfl _ rfl
  have hO6 := (hO5).trans (hb6.mono (hO5).size)
  have n7_2__6 := block_below hb6 (lt_of_heap n7_2__5) n7_2__5
  refine hK6 _ _ ?_
  clear hK6 K6
  refine wp_cond_false rfl ?_
  refine wp_skip ?_
  refine hKO3 _ _ ?_
  clear hKO3 KO3
  refine wp_seq_k fun K7 hK7 => ?_
  refine wp_plain_inv 6 (specs [Bts (sig), Bts ((sig).take 32), Bts (pub), Bts (m), Bts (digs 32 (numL ((sig).take 32 ++ pub ++ m))), Bts (digs 32 (numL ((sig).take 32 ++ pub ++ m)))]) (specs_stb ⟨Bts.stb _, Bts.stb _, Bts.stb _, Bts.stb _, Bts.stb _, Bts.stb _, trivial⟩) (by kernel_rfl) ?_ ?_
  · refine ⟨fun a w hB hfr hdep => Step.plain rfl (dMove (R := Bts (sig)) rfl (use (hfr 2 (by kernel_rfl)) ((Bts.stb _) _ _ _ hB ((Bts.stb _) _ _ _ hb6 ((Bts.stb _) _ _ _ hb5 ((Bts.stb _) _ _ _ hb4 ((Bts.stb _) _ _ _ hb3 ((Bts.stb _) _ _ _ hb2 ((Bts.stb _) _ _ _ hb1 hs))))))))),
      fun a w hB hfr hdep => Step.plain rfl (dTake32 hs64 rfl (hdep 0 29 (by kernel_rfl)) rfl),
      fun a w hB hfr hdep => Step.plain rfl (dMove (R := Bts (pub)) rfl (use (hfr 0 (by kernel_rfl)) ((Bts.stb _) _ _ _ hB ((Bts.stb _) _ _ _ hb6 ((Bts.stb _) _ _ _ hb5 ((Bts.stb _) _ _ _ hb4 ((Bts.stb _) _ _ _ hb3 ((Bts.stb _) _ _ _ hb2 ((Bts.stb _) _ _ _ hb1 hp))))))))),
      fun a w hB hfr hdep => Step.plain rfl (dMove (R := Bts (m)) rfl (use (hfr 1 (by kernel_rfl)) ((Bts.stb _) _ _ _ hB ((Bts.stb _) _ _ _ hb6 ((Bts.stb _) _ _ _ hb5 ((Bts.stb _) _ _ _ hb4 ((Bts.stb _) _ _ _ hb3 ((Bts.stb _) _ _ _ hb2 ((Bts.stb _) _ _ _ hb1 hm))))))))),
      fun a w hB hfr hdep => Step.plain rfl (Does.call 19 #[(a.eval (.tmp 30)), (a.eval (.tmp 31)), (a.eval (.tmp 32))] (by kernel_rfl) (rHash w (hdep 1 30 (by kernel_rfl)) (hdep 2 31 (by kernel_rfl)) (hdep 3 32 (by kernel_rfl)) (Dig.take hsig _) hpub hmd (by rw [List.length_take]; omega) (by rw [List.length_take]; omega))),
      fun a w hB hfr hdep => Step.plain rfl (dAssign (R := Bts (digs 32 (numL ((sig).take 32 ++ pub ++ m)))) rfl (hdep 4 33 (by kernel_rfl))), trivial⟩
  intro u7 hb7
  simp only [List.take, List.drop, FinAll, Act.put, List.setIfInBounds_toArray, List.set_cons_succ, List.set_cons_zero]
  rintro v29_7 h29_7 v30_7 h30_7 v31_7 h31_7 v32_7 h32_7 v33_7 h33_7 v10_7 h10_7
  have hO7 := (hO6).trans (hb7.mono (hO6).size)
  have n7_2__7 := block_below hb7 (lt_of_heap n7_2__6) n7_2__6
  refine hK7 _ _ ?_
  clear hK7 K7
  refine wp_seq_k fun K8 hK8 => ?_
  refine wp_region_inv 5 (specs [RPt ((B0).x) ((B0).y), Bts (sig), Bts ((sig).drop 32), RPt (((B0).nm (valD ((sig).drop 32))).x) (((B0).nm (valD ((sig).drop 32))).y), Box u7.heap.size (#[.slice none 0 0, .slice none 0 0]) 45]) (by kernel_rfl) (specs_stb ⟨RPt.stb _ _, Bts.stb _, Bts.stb _, RPt.stb _ _, Box.stb _ _ _, trivial⟩) (by kernel_rfl) ?_ ?_
  · refine ⟨fun a w hB hfr hdep => Step.plain rfl (Does.call 22 #[] (by kernel_rfl) (hBase w)),
      fun a w hB hfr hdep => Step.plain rfl (dMove (R := Bts (sig)) rfl (use (hfr 2 (by kernel_rfl)) ((Bts.stb _) _ _ _ hB ((Bts.stb _) _ _ _ hb7 ((Bts.stb _) _ _ _ hb6 ((Bts.stb _) _ _ _ hb5 ((Bts.stb _) _ _ _ hb4 ((Bts.stb _) _ _ _ hb3 ((Bts.stb _) _ _ _ hb2 ((Bts.stb _) _ _ _ hb1 hs)))))))))),
      fun a w hB hfr hdep => Step.plain rfl (dDrop32 hs64 rfl (hdep 1 35 (by kernel_rfl)) rfl),
      fun a w hB hfr hdep => Step.plain rfl (Does.call 21 #[(a.eval (.tmp 34)), (a.eval (.tmp 36))] (by kernel_rfl) (rMulPt (P := B0) w (hdep 0 34 (by kernel_rfl)) (hdep 2 36 (by kernel_rfl)) (Dig.drop hsig _) (by rw [List.length_drop]; omega))),
      fun a w hB hfr hdep => Step.plain rfl (dAlloc35 hB.size rfl), trivial⟩
  intro u8 hb8
  simp only [List.take, List.drop, FinAll, Act.put, List.setIfInBounds_toArray, List.set_cons_succ, List.set_cons_zero]
  rintro v34_8 h34_8 v35_8 h35_8 v36_8 h36_8 _ ⟨p37_8, q37_8, rfl, x37_8, y37_8⟩ _ ⟨g11_8, rfl, l11_8, m11_8⟩
  refine wpList_store_row rfl 45 (.tmp 11) (.tmp 37) rfl _ (#[p37_8, q37_8]) rfl rfl 45 _ m11_8 info35 rfl (rpt_one x37_8 y37_8) ?_
  have n11_8 := setRow_heap _ _ _ (#[p37_8, q37_8]) _ _ m11_8
  replace hb8 := setRow_below hb8 l11_8 (#[p37_8, q37_8])
  replace x37_8 := Rw.setRow x37_8 m11_8 nz35 (#[p37_8, q37_8])
  replace y37_8 := Rw.setRow y37_8 m11_8 nz35 (#[p37_8, q37_8])
  generalize hw8_1 : u8.setRow g11_8 (#[p37_8, q37_8]) = u8_1 at n11_8 hb8 x37_8 y37_8  ⊢
  clear hw8_1 m11_8
  have hO8 := (hO7).trans (hb8.mono (hO7).size)
  have n7_2__8 := block_below hb8 (lt_of_heap n7_2__7) n7_2__7
  have lwn11_8 := Nat.le_trans (hO7).size l11_8
  refine hK8 _ _ ?_
  clear hK8 K8
  refine wp_seq_k fun K9 hK9 => ?_
  refine wp_region_inv 8 (specs [Rw (0), Is (.pointer (some ⟨g7_2, 0, none⟩)), Rw ((P).x), Rw ((0) - (P.x)), Is (.pointer (some ⟨g7_2, 1, none⟩)), Rw ((P).y), RPt ((0) - (P.x)) ((P).y), Box u8_1.heap.size (#[.slice none 0 0, .slice none 0 0]) 45]) (by kernel_rfl) (specs_stb ⟨Rw.stb _, Is.stb _, Rw.stb _, Rw.stb _, Is.stb _, Rw.stb _, RPt.stb _ _, Box.stb _ _ _, trivial⟩) (by kernel_rfl) ?_ ?_
  · refine ⟨fun a w hB hfr hdep => Step.plain rfl (Does.call 28 #[.int .i64 0] (by kernel_rfl) (rInt w 0 (by decide))),
      fun a w hB hfr hdep => Step.plain rfl (dFa35 g7_2 0 (by decide) rfl (hfr 7 (by kernel_rfl))),
      fun a w hB hfr hdep => Step.plain rfl (dLoadR0 (Rw.stb _ _ _ _ hb8 (Rw.stb _ _ _ _ hb7 (Rw.stb _ _ _ _ hb6 (Rw.stb _ _ _ _ hb5 (Rw.stb _ _ _ _ hb4 (Rw.stb _ _ _ _ hb3 x17_2)))))) hB (Rw.stb _ _ _ _ hb8 (Rw.stb _ _ _ _ hb7 (Rw.stb _ _ _ _ hb6 (Rw.stb _ _ _ _ hb5 (Rw.stb _ _ _ _ hb4 (Rw.stb _ _ _ _ hb3 y17_2)))))) (block_below hB (lt_of_heap n7_2__8) n7_2__8) rfl (hdep 1 39 (by kernel_rfl))),
      fun a w hB hfr hdep => Step.plain rfl (Does.call 27 #[(a.eval (.tmp 38)), (a.eval (.tmp 40))] (by kernel_rfl) (rSub (x := 0) (y := P.x) w (hdep 0 38 (by kernel_rfl)) (hdep 2 40 (by kernel_rfl)))),
      fun a w hB hfr hdep => Step.plain rfl (dFa35 g7_2 1 (by decide) rfl (hfr 7 (by kernel_rfl))),
      fun a w hB hfr hdep => Step.plain rfl (dLoadR1 (Rw.stb _ _ _ _ hb8 (Rw.stb _ _ _ _ hb7 (Rw.stb _ _ _ _ hb6 (Rw.stb _ _ _ _ hb5 (Rw.stb _ _ _ _ hb4 (Rw.stb _ _ _ _ hb3 x17_2)))))) hB (Rw.stb _ _ _ _ hb8 (Rw.stb _ _ _ _ hb7 (Rw.stb _ _ _ _ hb6 (Rw.stb _ _ _ _ hb5 (Rw.stb _ _ _ _ hb4 (Rw.stb _ _ _ _ hb3 y17_2)))))) (block_below hB (lt_of_heap n7_2__8) n7_2__8) rfl (hdep 4 42 (by kernel_rfl))),
      fun a w hB hfr hdep => Step.plain rfl (dBuild35 rfl (hdep 3 41 (by kernel_rfl)) (hdep 5 43 (by kernel_rfl))),
      fun a w hB hfr hdep => Step.plain rfl (dAlloc35 hB.size rfl), trivial⟩
  intro u9 hb9
  simp only [List.take, List.drop, FinAll, Act.put, List.setIfInBounds_toArray, List.set_cons_succ, List.set_cons_zero]
  rintro v38_9 h38_9 _ rfl v40_9 h40_9 v41_9 h41_9 _ rfl v43_9 h43_9 _ ⟨p44_9, q44_9, rfl, x44_9, y44_9⟩ _ ⟨g12_9, rfl, l12_9, m12_9⟩
  refine wpList_store_row rfl 45 (.tmp 12) (.tmp 44) rfl _ (#[p44_9, q44_9]) rfl rfl 45 _ m12_9 info35 rfl (rpt_one x44_9 y44_9) ?_
  have n12_9 := setRow_heap _ _ _ (#[p44_9, q44_9]) _ _ m12_9
  replace hb9 := setRow_below hb9 l12_9 (#[p44_9, q44_9])
  replace x44_9 := Rw.setRow x44_9 m12_9 nz35 (#[p44_9, q44_9])
  replace y44_9 := Rw.setRow y44_9 m12_9 nz35 (#[p44_9, q44_9])
  generalize hw9_1 : u9.setRow g12_9 (#[p44_9, q44_9]) = u9_1 at n12_9 hb9 x44_9 y44_9  ⊢
  clear hw9_1 m12_9
  have hO9 := (hO8).trans (hb9.mono (hO8).size)
  have n7_2__9 := block_below hb9 (lt_of_heap n7_2__8) n7_2__8
  have n11_8__9 := block_below hb9 (lt_of_heap n11_8) n11_8
  have lwn12_9 := Nat.le_trans (hO8).size l12_9
  refine hK9 _ _ ?_
  clear hK9 K9
  refine wp_seq_k fun K10 hK10 => ?_
  refine wp_region_inv 6 (specs [RPt (((B0).nm (valD ((sig).drop 32))).x) (((B0).nm (valD ((sig).drop 32))).y), RPt ((0) - (P.x)) ((P).y), Bts (digs 32 (numL ((sig).take 32 ++ pub ++ m))), RPt ((((P).neg).nm (valD (digs 32 (numL ((sig).take 32 ++ pub ++ m))))).x) ((((P).neg).nm (valD (digs 32 (numL ((sig).take 32 ++ pub ++ m))))).y), RPt ((((B0).nm (valD ((sig).drop 32))).add (((P).neg).nm (valD (digs 32 (numL ((sig).take 32 ++ pub ++ m)))))).x) ((((B0).nm (valD ((sig).drop 32))).add (((P).neg).nm (valD (digs 32 (numL ((sig).take 32 ++ pub ++ m)))))).y), Box u9_1.heap.size (#[.slice none 0 0, .slice none 0 0]) 45]) (by kernel_rfl) (specs_stb ⟨RPt.stb _ _, RPt.stb _ _, Bts.stb _, RPt.stb _ _, RPt.stb _ _, Box.stb _ _ _, trivial⟩) (by kernel_rfl) ?_ ?_
  · refine ⟨fun a w hB hfr hdep => Step.plain rfl (dLoadRPt (Rw.stb _ _ _ _ hb9 x37_8) hB (Rw.stb _ _ _ _ hb9 y37_8) (block_below hB (lt_of_heap n11_8__9) n11_8__9) rfl (hfr 11 (by kernel_rfl))),
      fun a w hB hfr hdep => Step.plain rfl (dLoadRPt x44_9 hB y44_9 (block_below hB (lt_of_heap n12_9) n12_9) rfl (hfr 12 (by kernel_rfl))),
      fun a w hB hfr hdep => Step.plain rfl (dMove (R := Bts (digs 32 (numL ((sig).take 32 ++ pub ++ m)))) rfl (use (hfr 10 (by kernel_rfl)) ((Bts.stb _) _ _ _ hB ((Bts.stb _) _ _ _ hb9 ((Bts.stb _) _ _ _ hb8 h10_7))))),
      fun a w hB hfr hdep => Step.plain rfl (Does.call 21 #[(a.eval (.tmp 46)), (a.eval (.tmp 47))] (by kernel_rfl) (rMulPt (P := (P).neg) w (negRPt (hdep 1 46 (by kernel_rfl))) (hdep 2 47 (by kernel_rfl)) (digs_dig _ _) (by rw [digs_len]; omega))),
      fun a w hB hfr hdep => Step.plain rfl (Does.call 29 #[(a.eval (.tmp 45)), (a.eval (.tmp 48))] (by kernel_rfl) (rAddPt w (hdep 0 45 (by kernel_rfl)) (hdep 3 48 (by kernel_rfl)))),
      fun a w hB hfr hdep => Step.plain rfl (dAlloc35 hB.size rfl), trivial⟩
  intro u10 hb10
  simp only [List.take, List.drop, FinAll, Act.put, List.setIfInBounds_toArray, List.set_cons_succ, List.set_cons_zero]
  rintro v45_10 h45_10 v46_10 h46_10 v47_10 h47_10 v48_10 h48_10 _ ⟨p49_10, q49_10, rfl, x49_10, y49_10⟩ _ ⟨g13_10, rfl, l13_10, m13_10⟩
  refine wpList_store_row rfl 45 (.tmp 13) (.tmp 49) rfl _ (#[p49_10, q49_10]) rfl rfl 45 _ m13_10 info35 rfl (rpt_one x49_10 y49_10) ?_
  have n13_10 := setRow_heap _ _ _ (#[p49_10, q49_10]) _ _ m13_10
  replace hb10 := setRow_below hb10 l13_10 (#[p49_10, q49_10])
  replace x49_10 := Rw.setRow x49_10 m13_10 nz35 (#[p49_10, q49_10])
  replace y49_10 := Rw.setRow y49_10 m13_10 nz35 (#[p49_10, q49_10])
  generalize hw10_1 : u10.setRow g13_10 (#[p49_10, q49_10]) = u10_1 at n13_10 hb10 x49_10 y49_10  ⊢
  clear hw10_1 m13_10
  have hO10 := (hO9).trans (hb10.mono (hO9).size)
  have n7_2__10 := block_below hb10 (lt_of_heap n7_2__9) n7_2__9
  have n11_8__10 := block_below hb10 (lt_of_heap n11_8__9) n11_8__9
  have n12_9__10 := block_below hb10 (lt_of_heap n12_9) n12_9
  have lwn13_10 := Nat.le_trans (hO9).size l13_10
  refine hK10 _ _ ?_
  clear hK10 K10
  refine wp_seq_k fun KO4 hKO4 => ?_
  refine wp_seq_k fun K11 hK11 => ?_
  refine wp_region_inv 7 (specs [RPt ((((B0).nm (valD ((sig).drop 32))).add (((P).neg).nm (valD (digs 32 (numL ((sig).take 32 ++ pub ++ m)))))).x) ((((B0).nm (valD ((sig).drop 32))).add (((P).neg).nm (valD (digs 32 (numL ((sig).take 32 ++ pub ++ m)))))).y), OwnC u10_1.heap.size (digs 32 (Pt.enc (((B0).nm (valD ((sig).drop 32))).add (((P).neg).nm (valD (digs 32 (numL ((sig).take 32 ++ pub ++ m)))))))), Is (.string (strOf (digs 32 (Pt.enc (((B0).nm (valD ((sig).drop 32))).add (((P).neg).nm (valD (digs 32 (numL ((sig).take 32 ++ pub ++ m)))))))))), Bts (sig), Bts ((sig).take 32), Is (.string (strOf ((sig).take 32))), Is (.bool false)]) (by kernel_rfl) (specs_stb ⟨RPt.stb _ _, OwnC.stb _ _, Is.stb _, Bts.stb _, Bts.stb _, Is.stb _, Is.stb _, trivial⟩) (by kernel_rfl) ?_ ?_
  · refine ⟨fun a w hB hfr hdep => Step.plain rfl (dLoadRPt x49_10 hB y49_10 (block_below hB (lt_of_heap n13_10) n13_10) rfl (hfr 13 (by kernel_rfl))),
      fun a w hB hfr hdep => Step.plain rfl (Does.call 20 #[(a.eval (.tmp 50))] (by kernel_rfl) (ownCLo hB.size (rPBytes w (hdep 0 50 (by kernel_rfl))))),
      fun a w hB hfr hdep => Step.plain rfl (dConvBts rfl (OwnC.bts (hdep 1 51 (by kernel_rfl)))),
      fun a w hB hfr hdep => Step.plain rfl (dMove (R := Bts (sig)) rfl (use (hfr 2 (by kernel_rfl)) ((Bts.stb _) _ _ _ hB ((Bts.stb _) _ _ _ hb10 ((Bts.stb _) _ _ _ hb9 ((Bts.stb _) _ _ _ hb8 ((Bts.stb _) _ _ _ hb7 ((Bts.stb _) _ _ _ hb6 ((Bts.stb _) _ _ _ hb5 ((Bts.stb _) _ _ _ hb4 ((Bts.stb _) _ _ _ hb3 ((Bts.stb _) _ _ _ hb2 ((Bts.stb _) _ _ _ hb1 hs))))))))))))),
      fun a w hB hfr hdep => Step.plain rfl (dTake32 hs64 rfl (hdep 3 53 (by kernel_rfl)) rfl),
      fun a w hB hfr hdep => Step.plain rfl (dConvBts rfl (hdep 4 54 (by kernel_rfl))),
      fun a w hB hfr hdep => Step.plain rfl (Does.run _ (run_neqStrB (b := false) hE rfl (hdep 2 52 (by kernel_rfl)) (hdep 5 55 (by kernel_rfl))) rfl), trivial⟩
  intro u11 hb11
  simp only [List.take, List.drop, FinAll, Act.put, List.setIfInBounds_toArray, List.set_cons_succ, List.set_cons_zero]
  rintro v50_11 h50_11 v51_11 h51_11 _ rfl v53_11 h53_11 v54_11 h54_11 _ rfl _ rfl
  have hO11 := (hO10).trans (hb11.mono (hO10).size)
  have n7_2__11 := block_below hb11 (lt_of_heap n7_2__10) n7_2__10
  have n11_8__11 := block_below hb11 (lt_of_heap n11_8__10) n11_8__10
  have n12_9__11 := block_below hb11 (lt_of_heap n12_9__10) n12_9__10
  have n13_10__11 := block_below hb11 (lt_of_heap n13_10) n13_10
  refine hK11 _ _ ?_
  clear hK11 K11
  refine wp_cond_false rfl ?_
  refine wp_skip ?_
  refine hKO4 _ _ ?_
  clear hKO4 KO4
  refine wp_seq_k fun K12 hK12 => ?_
  refine wp_plain_inv 1 (specs [Is (.int .i64 0)]) (specs_stb ⟨Is.stb _, trivial⟩) (by kernel_rfl) ?_ ?_
  · refine ⟨fun a w hB hfr hdep => Step.plain rfl (dAssign (R := Is (.int .i64 0)) rfl rfl), trivial⟩
  intro u12 hb12
  simp only [List.take, List.drop, FinAll, Act.put, List.setIfInBounds_toArray, List.set_cons_succ, List.set_cons_zero]
  rintro _ rfl
  have hO12 := (hO11).trans (hb12.mono (hO11).size)
  have n7_2__12 := block_below hb12 (lt_of_heap n7_2__11) n7_2__11
  have n11_8__12 := block_below hb12 (lt_of_heap n11_8__11) n11_8__11
  have n12_9__12 := block_below hb12 (lt_of_heap n12_9__11) n12_9__11
  have n13_10__12 := block_below hb12 (lt_of_heap n13_10__11) n13_10__11
  refine hK12 _ _ ?_
  clear hK12 K12
  refine wp_ret ?_
  refine bodyPost_ret (results_tmp rfl _ _ _) rfl ?_
  exact ⟨_, rfl, hO12, rfl⟩
end Go.Proofs.YtabgihjffjlfiaaGreatDoor
