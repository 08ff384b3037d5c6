/-
  Bytes.
-/
import Derived.Test.YtpfcboakafbnlaaDoorN7
set_option linter.unusedVariables false
namespace Go.Proofs.YtpfcboakafbnlaaDoor
open Go.RowKit Go.Sort Go.BigFrame
set_option maxRecDepth 100000
set_option maxHeartbeats 2000000
theorem or128 (x : Nat) (h : x < 128) : bits .or .u8 (x : Int) 128 = ((x + 128 : Nat) : Int) := by
  have : ∀ y < 128, bits .or .u8 ((y : Nat) : Int) 128 = ((y + 128 : Nat) : Int) := by decide
  exact this x h
theorem p31 : (256 : Nat) ^ 31 * 128 = t255 := by decide
theorem t255_lt : t255 * 2 = 256 ^ 32 := by decide
/-- The highest bit set. -/
theorem digs_high {y : Nat} (h : y < t255) : (digs 32 y).set 31 (y / 256 ^ 31 + 128) = digs 32 (y + t255) := by
  have hq := pos256 31
  have h31 := p31
  have hy : y / 256 ^ 31 < 128 := by rw [Nat.div_lt_iff_lt_mul hq, Nat.mul_comm]; omega
  refine digs_of ((digs_dig 32 y).set (by omega)) (by rw [List.length_set, digs_len]) ?_
  have hv := valD_set (digs 32 y) 31 (y / 256 ^ 31 + 128) (by rw [digs_len]; omega)
  rw [digs_get _ _ _ (by omega), valD_digs_lt (by have := t255_lt; omega), Nat.mod_eq_of_lt (show y / 256 ^ 31 < 256 by omega), Nat.mul_add, h31] at hv
  omega
theorem aff_of {X Y Z T : Fe} {p : Pt} (h : Rep X Y Z T p) : X * fin Z = p.x ∧ Y * fin Z = p.y := by
  obtain ⟨h0, h1, h2, h3⟩ := h
  have hi := mul_fin h0
  constructor
  · rw [← h1]; grobner
  · rw [← h2]; grobner
theorem cPBytes {p : Pt} {v1 : Value} (w w0 : World) (h1 : PtV p v1 w0) : Ret 14 #[v1] w (Own w.heap.size (digs 32 p.enc)) := by
  obtain ⟨cs1, rfl, X1, Y1, Z1, T1, h41, hr1⟩ := h1
  obtain ⟨ax, ay⟩ := aff_of hr1
  unfold Ret
  have hO0 : Below w.heap.size w w := Below.refl _ _
  go_enter Tryd.func14, Tryd.ntmps14
  refine wp_seq_k fun K1 hK1 => ?_
  refine wp_plain_inv 2 (specs [Box w.heap.size (cs1) 29, Is (.slice none 0 0)]) (specs_stb ⟨Box.stb _ _ _, Is.stb _, trivial⟩) (by kernel_rfl) ?_ ?_
  · refine ⟨fun a w hB hfr hdep => Step.plain rfl (dBox29 hB.size rfl (hfr 0 (by kernel_rfl)) h41),
      fun a w hB hfr hdep => Step.plain rfl (dAssign (R := Is (.slice none 0 0)) rfl rfl), trivial⟩
  intro u1 hb1
  simp only [List.take, List.drop, FinAll, Act.put, List.setIfInBounds_toArray, List.set_cons_succ, List.set_cons_zero]
  rintro _ ⟨g1_1, rfl, l1_1, m1_1⟩ _ rfl
  have hO1 := (hO0).trans (hb1.mono (hO0).size)
  have lwm1_1 := Nat.le_trans (hO0).size l1_1
  refine hK1 _ _ ?_
  clear hK1 K1
  refine wp_seq_k fun K2 hK2 => ?_
  refine wp_plain_inv 4 (specs [Is (.pointer (some ⟨g1_1, 10, none⟩)), El (Z1), El (fin (Z1)), Box u1.heap.size (elc zeroE) 27]) (specs_stb ⟨Is.stb _, El.stb _, El.stb _, Box.stb _ _ _, trivial⟩) (by kernel_rfl) ?_ ?_
  · refine ⟨fun a w hB hfr hdep => Step.plain rfl (dFa29 g1_1 2 (by decide) rfl (hfr 1 (by kernel_rfl))),
      fun a w hB hfr hdep => Step.plain rfl (dLoadPart (k := 2) h41 (block_below hB (lt_of_heap m1_1) m1_1) (by decide) rfl (hdep 0 5 (by kernel_rfl)) (fun _ h => h)),
      fun a w hB hfr hdep => Step.plain rfl (Does.call 38 #[(a.eval (.tmp 6))] (by kernel_rfl) (cInv w w (hdep 1 6 (by kernel_rfl)))),
      fun a w hB hfr hdep => Step.plain rfl (dAlloc27 hB.size rfl), trivial⟩
  intro u2 hb2
  simp only [List.take, List.drop, FinAll, Act.put, List.setIfInBounds_toArray, List.set_cons_succ, List.set_cons_zero]
  rintro _ rfl v6_2 h6_2 _ ⟨e7_2, q7_2, rfl, x7_2⟩ _ ⟨g3_2, rfl, l3_2, m3_2⟩
  refine wpList_store_row rfl 27 (.tmp 3) (.tmp 7) rfl _ (elc e7_2) rfl rfl 27 _ m3_2 info26 rfl (elc_one _) ?_
  have n3_2 := setRow_heap _ _ _ (elc e7_2) _ _ m3_2
  replace hb2 := setRow_below hb2 l3_2 (elc e7_2)
  generalize hw2_1 : u2.setRow g3_2 (elc e7_2) = u2_1 at n3_2 hb2  ⊢
  clear hw2_1 m3_2
  have hO2 := (hO1).trans (hb2.mono (hO1).size)
  have m1_1__2 := block_below hb2 (lt_of_heap m1_1) m1_1
  have lwn3_2 := Nat.le_trans (hO1).size l3_2
  refine hK2 _ _ ?_
  clear hK2 K2
  refine wp_seq_k fun K3 hK3 => ?_
  refine wp_plain_inv 6 (specs [Is (.pointer (some ⟨g1_1, 5, none⟩)), El (Y1), El (fin (Z1)), El ((Y1) * (fin (Z1))), Own u2_1.heap.size (digs 32 (Fin.val ((Y1) * (fin (Z1))))), Own u2_1.heap.size (digs 32 (Fin.val ((Y1) * (fin (Z1)))))]) (specs_stb ⟨Is.stb _, El.stb _, El.stb _, El.stb _, Own.stb _ _, Own.stb _ _, trivial⟩) (by kernel_rfl) ?_ ?_
  · refine ⟨fun a w hB hfr hdep => Step.plain rfl (dFa29 g1_1 1 (by decide) rfl (hfr 1 (by kernel_rfl))),
      fun a w hB hfr hdep => Step.plain rfl (dLoadPart (k := 1) h41 (block_below hB (lt_of_heap m1_1__2) m1_1__2) (by decide) rfl (hdep 0 8 (by kernel_rfl)) (fun _ h => h)),
      fun a w hB hfr hdep => Step.plain rfl (dLoadEl q7_2 x7_2 (block_below hB (lt_of_heap n3_2) n3_2) rfl (hfr 3 (by kernel_rfl)) (fun _ h => h)),
      fun a w hB hfr hdep => Step.plain rfl (Does.call 39 #[(a.eval (.tmp 9)), (a.eval (.tmp 10))] (by kernel_rfl) (cMul w w w (hdep 1 9 (by kernel_rfl)) (hdep 2 10 (by kernel_rfl)))),
      fun a w hB hfr hdep => Step.plain rfl (Does.call 40 #[(a.eval (.tmp 11))] (by kernel_rfl) (ownLo hB.size (cBytes w w (hdep 3 11 (by kernel_rfl))))),
      fun a w hB hfr hdep => Step.plain rfl (dAssign (R := Own u2_1.heap.size (digs 32 (Fin.val ((Y1) * (fin (Z1)))))) rfl (hdep 4 12 (by kernel_rfl))), trivial⟩
  intro u3 hb3
  simp only [List.take, List.drop, FinAll, Act.put, List.setIfInBounds_toArray, List.set_cons_succ, List.set_cons_zero]
  rintro _ rfl v9_3 h9_3 v10_3 h10_3 v11_3 h11_3 v12_3 h12_3 v4_3 h4_3
  have hO3 := (hO2).trans (hb3.mono (hO2).size)
  have m1_1__3 := block_below hb3 (lt_of_heap m1_1__2) m1_1__2
  have n3_2__3 := block_below hb3 (lt_of_heap n3_2) n3_2
  refine hK3 _ _ ?_
  clear hK3 K3
  refine wp_seq_k fun KO hKO => ?_
  refine wp_seq_k fun K4 hK4 => ?_
  refine wp_plain_inv 5 (specs [Is (.pointer (some ⟨g1_1, 0, none⟩)), El (X1), El (fin (Z1)), El ((X1) * (fin (Z1))), Is (.bool (decide (Fin.val ((X1) * (fin (Z1))) % 2 = 1)))]) (specs_stb ⟨Is.stb _, El.stb _, El.stb _, El.stb _, Is.stb _, trivial⟩) (by kernel_rfl) ?_ ?_
  · refine ⟨fun a w hB hfr hdep => Step.plain rfl (dFa29 g1_1 0 (by decide) rfl (hfr 1 (by kernel_rfl))),
      fun a w hB hfr hdep => Step.plain rfl (dLoadPart (k := 0) h41 (block_below hB (lt_of_heap m1_1__3) m1_1__3) (by decide) rfl (hdep 0 13 (by kernel_rfl)) (fun _ h => h)),
      fun a w hB hfr hdep => Step.plain rfl (dLoadEl q7_2 x7_2 (block_below hB (lt_of_heap n3_2__3) n3_2__3) rfl (hfr 3 (by kernel_rfl)) (fun _ h => h)),
      fun a w hB hfr hdep => Step.plain rfl (Does.call 39 #[(a.eval (.tmp 14)), (a.eval (.tmp 15))] (by kernel_rfl) (cMul w w w (hdep 1 14 (by kernel_rfl)) (hdep 2 15 (by kernel_rfl)))),
      fun a w hB hfr hdep => Step.plain rfl (Does.call 32 #[(a.eval (.tmp 16))] (by kernel_rfl) (cOdd w w (hdep 3 16 (by kernel_rfl)))), trivial⟩
  intro u4 hb4
  simp only [List.take, List.drop, FinAll, Act.put, List.setIfInBounds_toArray, List.set_cons_succ, List.set_cons_zero]
  rintro _ rfl v14_4 h14_4 v15_4 h15_4 v16_4 h16_4 _ rfl
  have hO4 := (hO3).trans (hb4.mono (hO3).size)
  have m1_1__4 := block_below hb4 (lt_of_heap m1_1__3) m1_1__3
  have n3_2__4 := block_below hb4 (lt_of_heap n3_2__3) n3_2__3
  refine hK4 _ _ ?_
  clear hK4 K4
  obtain ⟨g, hv, hg, hrow⟩ := ((Own.stb _ _) _ _ _ hb4 h4_3)
  rw [digs_len] at hv
  subst hv
  have hlow : w.heap.size ≤ g := Nat.le_trans hO2.size hg
  have hO := hO4
  rw [ay] at hrow
  rw [ax]
  obtain ⟨yv, hyv⟩ : ∃ y, y = p.y.val := ⟨_, rfl⟩
  have hyp := p.y.isLt
  have hpt := pp_t
  have hq := pos256 31
  have hy128 : yv / 256 ^ 31 < 128 := by rw [Nat.div_lt_iff_lt_mul hq, Nat.mul_comm, p31]; omega
  rw [← hyv] at hrow
  by_cases hodd : p.x.val % 2 = 1
  · have HE : Hid (p.enc = yv + t255) := by show _ = _; unfold Pt.enc; rw [hodd, hyv, Nat.mul_one]
    have c31 := cell_ints hrow 31 (by rw [digs_len]; omega)
    rw [digs_get _ _ _ (by omega), Nat.mod_eq_of_lt (show yv / 256 ^ 31 < 256 by omega)] at c31
    have f31 := free_ints hrow 31
    have hset := set_ints hrow 31 (yv / 256 ^ 31 + 128)
    rw [digs_high (by omega)] at hset
    have hO' := hO.setCell (p := ⟨g, 31, none⟩) hlow (.int .u8 ((yv / 256 ^ 31 + 128 : Nat) : Int))
    obtain ⟨z, hz⟩ : ∃ z, z = yv / 256 ^ 31 := ⟨_, rfl⟩
    rw [← hz] at c31 hset hO' hy128
    have ho := or128 z hy128
    rw [decide_eq_true hodd]
    have HS : Hid ((u4.setCell ⟨g, 31, none⟩ (.int .u8 ((z + 128 : Nat) : Int))).heap[g]? = some (.cells (ints .u8 (digs 32 (yv + t255))) 5 (0, 0))) := hset
    have HO' : Hid (Below w.heap.size w (u4.setCell ⟨g, 31, none⟩ (.int .u8 ((z + 128 : Nat) : Int)))) := hO'
    clear hset hO' hrow hO hz hyv hyp hpt hq hodd
    refine wp_cond_true rfl ?_
    go_wp2
    go_ret
    exact ⟨_, rfl, HO'.out, g, by rw [digs_len]; rfl, hlow, by rw [HE.out]; exact HS.out⟩
  · have HE : Hid (p.enc = yv) := by show _ = _; unfold Pt.enc; rw [show p.x.val % 2 = 0 by omega, hyv]; simp
    rw [decide_eq_false hodd]
    refine wp_cond_false rfl ?_
    refine wp_skip ?_
    refine hKO _ _ ?_
    clear hKO hyv hyp hpt hq hodd hy128
    go_wp2
    go_ret
    exact ⟨_, rfl, hO, g, by rw [digs_len]; rfl, hlow, by rw [HE.out]; exact hrow⟩
end Go.Proofs.YtpfcboakafbnlaaDoor
