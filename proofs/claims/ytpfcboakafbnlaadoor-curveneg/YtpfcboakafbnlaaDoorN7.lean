/-
  Mul.
-/
import Derived.Test.YtpfcboakafbnlaaDoorN6
set_option linter.unusedVariables false
namespace Go.Proofs.YtpfcboakafbnlaaDoor
open Go.RowKit Go.Sort Go.BigFrame
set_option maxRecDepth 100000
set_option maxHeartbeats 2000000
/-- The blocks of Mul: the point, the result's, 2 d, the sum. -/
structure RelM (w wr : World) (g2 g4 g5 g6 : Nat) (c2 c5 : Array Value) (q : Pt) : Prop where
  below : Below w.heap.size w wr
  b2 : wr.heap[g2]? = some (.cells c2 29 (0, 0))
  b4 : wr.heap[g4]? = some (.cells (ptc zeroE zeroE zeroE zeroE) 29 (0, 0))
  b5 : wr.heap[g5]? = some (.cells c5 27 (0, 0))
  b6 : ∃ c6, CellsP c6 q ∧ wr.heap[g6]? = some (.cells c6 29 (0, 0))
theorem RelM.grow {w wr w2 : World} {g2 g4 g5 g6 : Nat} {c2 c5 : Array Value} {q q' : Pt} (h : RelM w wr g2 g4 g5 g6 c2 c5 q) (hb : Below wr.heap.size wr w2) (n2 : g2 ≠ g6) (n4 : g4 ≠ g6) (n5 : g5 ≠ g6) (hl : w.heap.size ≤ g6) {c : Array Value} (hc : CellsP c q') :
    RelM w (w2.setRow g6 c) g2 g4 g5 g6 c2 c5 q' := by
  obtain ⟨c6, _, h6⟩ := h.b6
  exact ⟨setRow_below (h.below.trans (hb.mono h.below.size)) hl _, (setRow_other _ _ _ _ n2).trans (block_below hb (lt_of_heap h.b2) h.b2), (setRow_other _ _ _ _ n4).trans (block_below hb (lt_of_heap h.b4) h.b4), (setRow_other _ _ _ _ n5).trans (block_below hb (lt_of_heap h.b5) h.b5), c, hc, setRow_heap _ _ _ _ _ _ (block_below hb (lt_of_heap h6) h6)⟩
theorem cMulP {p : Pt} {v1 v2 : Value} {l : List Nat} (w w0 : World) (hT : Tab w) (h1 : PtV p v1 w0) (h2 : Bts l v2 w) (hd : Dig l) (hl32 : l.length ≤ 32) : Ret 17 #[v1, v2] w (PtV (p.nm (valD l))) := by
  obtain ⟨cs1, rfl, hp1⟩ := h1
  obtain ⟨X1, Y1, Z1, T1, h41, hr1⟩ := id hp1
  obtain ⟨ad, cap, rfl, hcap, hcap2, hv⟩ := h2
  obtain ⟨len, hlen⟩ : ∃ n, n = l.length := ⟨_, rfl⟩
  rw [← hlen] at hcap hl32 ⊢
  have HLEN : Hid (l.length = len) := hlen.symm
  clear hlen
  unfold Ret
  have hO0 : Below w.heap.size w w := Below.refl _ _
  go_enter Tryd.func17, Tryd.ntmps17
  refine wp_seq_k fun K1 hK1 => ?_
  refine wp_plain_inv 2 (specs [Box w.heap.size (cs1) 29, Box w.heap.size (ptc zeroE zeroE zeroE zeroE) 29]) (specs_stb ⟨Box.stb _ _ _, Box.stb _ _ _, trivial⟩) (by kernel_rfl) ?_ ?_
  · refine ⟨fun a w hB hfr hdep => Step.plain rfl (dBox29 hB.size rfl (hfr 0 (by kernel_rfl)) h41),
      fun a w hB hfr hdep => Step.plain rfl (dAlloc29 hB.size rfl), trivial⟩
  intro u1 hb1
  simp only [List.take, List.drop, FinAll, Act.put, List.setIfInBounds_toArray, List.set_cons_succ, List.set_cons_zero]
  rintro _ ⟨g2_1, rfl, l2_1, m2_1⟩ _ ⟨g4_1, rfl, l4_1, m4_1⟩
  have hO1 := (hO0).trans (hb1.mono (hO0).size)
  have lwm2_1 := Nat.le_trans (hO0).size l2_1
  have lwm4_1 := Nat.le_trans (hO0).size l4_1
  have hT1 := Tab.below hT hb1
  refine hK1 _ _ ?_
  clear hK1 K1
  refine wp_seq_k fun K2 hK2 => ?_
  refine wp_plain_inv 2 (specs [El (dd + dd), Box u1.heap.size (elc zeroE) 27]) (specs_stb ⟨El.stb _, Box.stb _ _ _, trivial⟩) (by kernel_rfl) ?_ ?_
  · refine ⟨fun a w hB hfr hdep => Step.plain rfl (Does.call 48 #[] (by kernel_rfl) (cTwiceD w (Tab.below hT1 hB))),
      fun a w hB hfr hdep => Step.plain rfl (dAlloc27 hB.size rfl), trivial⟩
  intro u2 hb2
  simp only [List.take, List.drop, FinAll, Act.put, List.setIfInBounds_toArray, List.set_cons_succ, List.set_cons_zero]
  rintro _ ⟨e9_2, q9_2, rfl, x9_2⟩ _ ⟨g5_2, rfl, l5_2, m5_2⟩
  refine wpList_store_row rfl 27 (.tmp 5) (.tmp 9) rfl _ (elc e9_2) rfl rfl 27 _ m5_2 info26 rfl (elc_one _) ?_
  have n5_2 := setRow_heap _ _ _ (elc e9_2) _ _ m5_2
  replace hb2 := setRow_below hb2 l5_2 (elc e9_2)
  generalize hw2_1 : u2.setRow g5_2 (elc e9_2) = u2_1 at n5_2 hb2  ⊢
  clear hw2_1 m5_2
  have hO2 := (hO1).trans (hb2.mono (hO1).size)
  have m2_1__2 := block_below hb2 (lt_of_heap m2_1) m2_1
  have m4_1__2 := block_below hb2 (lt_of_heap m4_1) m4_1
  have lwn5_2 := Nat.le_trans (hO1).size l5_2
  have hT2 := Tab.below hT1 hb2
  refine hK2 _ _ ?_
  clear hK2 K2
  refine wp_seq_k fun K3 hK3 => ?_
  refine wp_plain_inv 2 (specs [PtV (Pt.zero), Box u2_1.heap.size (ptc zeroE zeroE zeroE zeroE) 29]) (specs_stb ⟨PtV.stb _, Box.stb _ _ _, trivial⟩) (by kernel_rfl) ?_ ?_
  · refine ⟨fun a w hB hfr hdep => Step.plain rfl (Does.call 25 #[] (by kernel_rfl) (cZero w)),
      fun a w hB hfr hdep => Step.plain rfl (dAlloc29 hB.size rfl), trivial⟩
  intro u3 hb3
  simp only [List.take, List.drop, FinAll, Act.put, List.setIfInBounds_toArray, List.set_cons_succ, List.set_cons_zero]
  rintro _ ⟨e10_3, rfl, x10_3⟩ _ ⟨g6_3, rfl, l6_3, m6_3⟩
  refine wpList_store_row rfl 29 (.tmp 6) (.tmp 10) rfl _ (e10_3) rfl rfl 29 _ m6_3 (by rw [cellsP_size x10_3]; exact info29) (by rw [cellsP_size x10_3]; rfl) (cellsP_one x10_3) ?_
  have n6_3 := setRow_heap _ _ _ (e10_3) _ _ m6_3
  replace hb3 := setRow_below hb3 l6_3 (e10_3)
  generalize hw3_1 : u3.setRow g6_3 (e10_3) = u3_1 at n6_3 hb3  ⊢
  clear hw3_1 m6_3
  have hO3 := (hO2).trans (hb3.mono (hO2).size)
  have m2_1__3 := block_below hb3 (lt_of_heap m2_1__2) m2_1__2
  have m4_1__3 := block_below hb3 (lt_of_heap m4_1__2) m4_1__2
  have n5_2__3 := block_below hb3 (lt_of_heap n5_2) n5_2
  have lwn6_3 := Nat.le_trans (hO2).size l6_3
  have hT3 := Tab.below hT2 hb3
  refine hK3 _ _ ?_
  clear hK3 K3
  have hmi : ¬ (32 < (len : Int)) := by omega
  have lwm4_1' : w.heap.size ≤ g4_1 := lwm4_1
  have n2 : g2_1 ≠ g6_3 := by have := lt_of_heap m2_1__2; omega
  have n4 : g4_1 ≠ g6_3 := by have := lt_of_heap m4_1__2; omega
  have n5 : g5_2 ≠ g6_3 := by have := lt_of_heap n5_2; omega
  have hR0 : Hid (RelM w u3_1 g2_1 g4_1 g5_2 g6_3 cs1 (elc e9_2) (p.nm (valD (l.drop len)))) := by
    show RelM _ _ _ _ _ _ _ _ _
    rw [List.drop_of_length_le (by rw [HLEN.out]; exact Nat.le_refl _)]
    exact ⟨hO3, m2_1__3, m4_1__3, n5_2__3, e10_3, x10_3, n6_3⟩
  have hd2 : El (dd + dd) (.agg (elc e9_2)) w := ⟨_, q9_2, rfl, x9_2⟩
  have hpv : PtV p (.agg cs1) w := ⟨_, rfl, hp1⟩
  have hs1 : cs1.size = 20 := cellsP_size hp1
  obtain ⟨c5, hc5⟩ : ∃ c, c = elc e9_2 := ⟨_, rfl⟩
  have hs5 : c5.size = 5 := by rw [hc5]; rfl
  rw [← hc5] at hR0 hd2 ⊢
  clear hc5 hO0 hb1 l2_1 m2_1 l4_1 m4_1 hO1 lwm2_1 lwm4_1 l5_2 n5_2 hb2 hO2 m2_1__2 m4_1__2 lwn5_2 hT2 l6_3 n6_3 hb3 hO3 m2_1__3 m4_1__3 n5_2__3 hT3 hT hT1 x10_3 q9_2 x9_2 h41 hr1 hp1
  go_wp2_with fail
  go_loopw [7] (fun i wr => ∃ j : Nat, j ≤ len ∧ i = .int .i64 ((j : Int) - 1) ∧ RelM w wr g2_1 g4_1 g5_2 g6_3 cs1 c5 (p.nm (valD (l.drop j)))) (fun i _ => (intOf i + 1).toNat)
  case atStart => exact ⟨len, Nat.le_refl _, rfl, hR0.out⟩
  case round =>
    obtain ⟨j, hj, rfl, hR⟩ := hrel
    clear hR0
    by_cases hj0 : j = 0
    · subst hj0
      obtain ⟨hB, hb2, hb4, hb5, c6, hc6, hb6⟩ := hR
      have hs6 : c6.size = 20 := cellsP_size hc6
      have ho6 := cellsP_one hc6
      have HC6 : Hid (CellsP c6 (p.nm (valD (l.drop 0)))) := hc6
      clear hc6
      go_wp2_with (first
        | (refine wpList_load_row rfl 29 (.tmp 6) rfl _ rfl 29 c6 (0, 0) _ hb6 Tryd.underlying29 rfl (by rw [hs6]; exact info29) ?_)
        | (refine wpList_store_row rfl 29 (.tmp 4) (.tmp 39) rfl _ c6 rfl rfl 29 _ hb4 (by rw [hs6]; exact info29) (by rw [hs6]; rfl) ho6 ?_))
      refine bodyPost_ret (v := .agg c6) ?_ rfl ⟨_, rfl, setRow_below hB lwm4_1' _, c6, rfl, HC6.out⟩
      exact results_cell_row Tryd.results17 _ _ _ 29 _ (0, 0) _ rfl (setRow_heap _ _ _ _ _ _ hb4) Tryd.underlying29 rfl (by rw [hs6]; exact info29)
    · obtain ⟨i, rfl⟩ : ∃ i, j = i + 1 := ⟨j - 1, by omega⟩
      have eI : (((i + 1 : Nat) : Int) - 1) = (i : Int) := by omega
      rw [eI]
      obtain ⟨gx, off, rfl, hc⟩ := hv (by rw [HLEN.out]; omega)
      have hci := hc i (by rw [HLEN.out]; omega)
      have hgx := block_lt_of_cell hci
      obtain ⟨c, hcc⟩ : ∃ c, c = l.getD i 0 := ⟨_, rfl⟩
      have hcl : c < 256 := by rw [hcc]; exact hd i
      rw [← hcc] at hci
      have HD : Hid (valD (l.drop i) = c + 256 * valD (l.drop (i + 1))) := by show _ = _; rw [hcc]; exact drop_val l i
      obtain ⟨E, hE⟩ : ∃ E, E = valD (l.drop (i + 1)) := ⟨_, rfl⟩
      rw [← hE] at HD hR
      clear hcc hE hc eI
      have hR0 : RelM w wr g2_1 g4_1 g5_2 g6_3 cs1 c5 (p.nm (E * 2 ^ (8 - 8) + c / 2 ^ 8)) := by
        rw [Nat.div_eq_of_lt hcl, Nat.sub_self, Nat.pow_zero, Nat.mul_one, Nat.add_zero]; exact hR
      clear hR
      go_wp2_with fail
      go_loopw [8] (fun b wr => ∃ t : Nat, t ≤ 8 ∧ b = .int .i64 ((t : Int) - 1) ∧ RelM w wr g2_1 g4_1 g5_2 g6_3 cs1 c5 (p.nm (E * 2 ^ (8 - t) + c / 2 ^ t))) (fun b _ => (intOf b + 1).toNat)
      case atStart => exact ⟨8, Nat.le_refl _, rfl, hR0⟩
      case round =>
        obtain ⟨t, ht, rfl, hR⟩ := hrel
        clear hR0
        by_cases ht0 : t = 0
        · subst ht0
          have HR : Hid (RelM w wr g2_1 g4_1 g5_2 g6_3 cs1 c5 (p.nm (valD (l.drop i)))) := by
            show RelM _ _ _ _ _ _ _ _ _
            rw [HD.out]
            have e : E * 2 ^ (8 - 0) + c / 2 ^ 0 = c + 256 * E := by simp; omega
            rw [← e]; exact hR
          clear hR
          go_wp2
          go_roundw
          case rel => exact ⟨i, by omega, rfl, HR.out⟩
          case measure => simp [intOf]
        · obtain ⟨b, rfl⟩ : ∃ b, t = b + 1 := ⟨t - 1, by omega⟩
          have eB : (((b + 1 : Nat) : Int) - 1) = (b : Int) := by omega
          rw [eB]
          clear eB
          obtain ⟨N, hN⟩ : ∃ N, N = E * 2 ^ (8 - (b + 1)) + c / 2 ^ (b + 1) := ⟨_, rfl⟩
          have HN : Hid (E * 2 ^ (8 - b) + c / 2 ^ b = 2 * N + c / 2 ^ b % 2) := by
            show _ = _
            rw [hN, Nat.mul_add, show 8 - b = 8 - (b + 1) + 1 by omega, Nat.pow_succ]
            have := bit_step c b
            have h3 : E * (2 ^ (8 - (b + 1)) * 2) = 2 * (E * 2 ^ (8 - (b + 1))) := by rw [← Nat.mul_assoc, Nat.mul_comm]
            omega
          rw [← hN] at hR
          have HB : Hid (RelM w wr g2_1 g4_1 g5_2 g6_3 cs1 c5 (p.nm N)) := hR
          obtain ⟨hB, hb2, hb4, hb5, c6, hc6, hb6⟩ := hR
          have hs6 : c6.size = 20 := cellsP_size hc6
          have hpl := fun w1 => cPlus w1 w w w (v1 := .agg c6) (v2 := .agg c6) (v3 := .agg c5) ⟨c6, rfl, hc6⟩ ⟨c6, rfl, hc6⟩ hd2
          unfold Ret at hpl
          have hcb : c / 2 ^ b < 256 := Nat.lt_of_le_of_lt (Nat.div_le_self _ _) hcl
          have hand := and1_8 (c / 2 ^ b) hcb
          simp only [Int.natCast_ediv, Int.natCast_pow, Int.cast_ofNat_Int] at hand
          clear hN ht0 hc6
          go_wp2_with (first
            | (refine wpList_load_row rfl 29 (.tmp 6) rfl _ rfl 29 c6 (0, 0) _ hb6 Tryd.underlying29 rfl (by rw [hs6]; exact info29) ?_)
            | (refine wpList_load_row rfl 27 (.tmp 5) rfl _ rfl 27 c5 (0, 0) _ hb5 Tryd.underlying27 rfl (by rw [hs5]; exact info26) ?_))
          refine (hpl _).mono ?_
          rintro e w2 ⟨v26, rfl, hb26, c7, rfl, hc7⟩
          have hs7 : c7.size = 20 := cellsP_size hc7
          have ho7 := cellsP_one hc7
          have hb6' := block_below hb26 (lt_of_heap hb6) hb6
          have HR2 : Hid (RelM w (w2.setRow g6_3 c7) g2_1 g4_1 g5_2 g6_3 cs1 c5 (p.nm (2 * N))) := by
            show RelM _ _ _ _ _ _ _ _ _
            have e2 : p.nm (2 * N) = (p.nm N).add (p.nm N) := by rw [Nat.two_mul, Pt.nm_add]
            rw [e2]
            exact HB.out.grow hb26 n2 n4 n5 lwn6_3 hc7
          have hcell : (w2.setRow g6_3 c7).cell? ⟨gx, off + i, none⟩ = some (.int .u8 (c : Int)) := by
            rw [cell_setRow_other _ _ _ _ (by show gx ≠ g6_3; omega)]
            exact (hb26.cell (p := ⟨gx, off + i, none⟩) (by have := hB.size; show gx < _; omega)).trans ((hB.cell (p := ⟨gx, off + i, none⟩) hgx).trans hci)
          clear hb26 hpl hb6 hb2 hb4 hb5 hB HB
          by_cases hodd : c / 2 ^ b % 2 = 1
          · have ho2 : bits BinOp.and IntKind.u8 ((c : Int) / 2 ^ b) 1 = 1 := by rw [hand, hodd]; rfl
            have HO : Hid (c / 2 ^ b % 2 = 1) := hodd
            clear hodd hand
            obtain ⟨hB3, hx3, hz3, hd3, c8, hc8, hp3⟩ := HR2.out
            have hpl := fun w1 => cPlus w1 w w w (v1 := .agg c8) (v2 := .agg cs1) (v3 := .agg c5) ⟨c8, rfl, hc8⟩ hpv hd2
            unfold Ret at hpl
            have hs8 : c8.size = 20 := cellsP_size hc8
            clear hc8
            go_wp2_with (first
              | (refine wpList_store_row rfl 29 (.tmp 6) (.tmp 26) rfl _ c7 rfl rfl 29 _ hb6' (by rw [hs7]; exact info29) (by rw [hs7]; exact hs6) ho7 ?_)
              | (refine wpList_load_row rfl 29 (.tmp 6) rfl _ rfl 29 c8 (0, 0) _ hp3 Tryd.underlying29 rfl (by rw [hs8]; exact info29) ?_)
              | (refine wpList_load_row rfl 29 (.tmp 2) rfl _ rfl 29 cs1 (0, 0) _ hx3 Tryd.underlying29 rfl (by rw [hs1]; exact info29) ?_)
              | (refine wpList_load_row rfl 27 (.tmp 5) rfl _ rfl 27 c5 (0, 0) _ hd3 Tryd.underlying27 rfl (by rw [hs5]; exact info26) ?_))
            refine (hpl _).mono ?_
            rintro e w4 ⟨v38, rfl, hb38, c9, rfl, hc9⟩
            have hs9 : c9.size = 20 := cellsP_size hc9
            have ho9 := cellsP_one hc9
            have hp4 := block_below hb38 (lt_of_heap hp3) hp3
            have HR4 : Hid (RelM w (w4.setRow g6_3 c9) g2_1 g4_1 g5_2 g6_3 cs1 c5 (p.nm (E * 2 ^ (8 - b) + c / 2 ^ b))) := by
              show RelM _ _ _ _ _ _ _ _ _
              rw [HN.out, HO.out, Pt.nm_succ]
              exact HR2.out.grow hb38 n2 n4 n5 lwn6_3 hc9
            clear hb38 hpl hB3 hx3 hz3 hd3 hp3 HR2 hcell hb6'
            go_wp2_with (refine wpList_store_row rfl 29 (.tmp 6) (.tmp 38) rfl _ c9 rfl rfl 29 _ hp4 (by rw [hs9]; exact info29) (by rw [hs9]; exact hs8) ho9 ?_)
            go_roundw
            case rel => exact ⟨b, by omega, rfl, HR4.out⟩
            case measure => simp [intOf]
          · have hz2 : c / 2 ^ b % 2 = 0 := by omega
            have ho2 : bits BinOp.and IntKind.u8 ((c : Int) / 2 ^ b) 1 = 0 := by rw [hand, hz2]; rfl
            have HR4 : Hid (RelM w (w2.setRow g6_3 c7) g2_1 g4_1 g5_2 g6_3 cs1 c5 (p.nm (E * 2 ^ (8 - b) + c / 2 ^ b))) := by
              show RelM _ _ _ _ _ _ _ _ _
              rw [HN.out, hz2, Nat.add_zero]
              exact HR2.out
            clear hodd hand hz2 HR2
            go_wp2_with (refine wpList_store_row rfl 29 (.tmp 6) (.tmp 26) rfl _ c7 rfl rfl 29 _ hb6' (by rw [hs7]; exact info29) (by rw [hs7]; exact hs6) ho7 ?_)
            go_roundw
            case rel => exact ⟨b, by omega, rfl, HR4.out⟩
            case measure => simp [intOf]
end Go.Proofs.YtpfcboakafbnlaaDoor
