/-
  Mul. Bytes. root, xWith. Rows of one's own with room behind; bytes.Clone. Read.
-/
import Derived.Test.YtabgihjffjlfiaaGreatDoorC3
set_option linter.unusedVariables false
namespace Go.Proofs.YtabgihjffjlfiaaGreatDoor
open Go.RowKit Go.Sort Go.BigFrame
set_option maxRecDepth 100000
set_option maxHeartbeats 2000000
structure RelM (w wr : World) (g2 g4 g5 g6 : Nat) (c2 c5 : Array Value) (q : Pt) : Prop where
 below : Below w.heap.size w wr
 b2 : wr.heap[g2]? = some (.cells c2 60 (0, 0))
 b4 : wr.heap[g4]? = some (.cells (ptc zeroE zeroE zeroE zeroE) 60 (0, 0))
 b5 : wr.heap[g5]? = some (.cells c5 58 (0, 0))
 b6 : ∃ c6, CellsP c6 q ∧ wr.heap[g6]? = some (.cells c6 60 (0, 0))
theorem RelM.grow {w wr w2 : World} {g2 g4 g5 g6 : Nat} {c2 c5 : Array Value} {q q' : Pt} (h : RelM w wr g2 g4 g5 g6 c2 c5 q) (hb : Below wr.heap.size wr w2) (n2 : g2 ≠ g6) (n4 : g4 ≠ g6) (n5 : g5 ≠ g6) (hl : w.heap.size ≤ g6) {c : Array Value} (hc : CellsP c q') :
  RelM w (w2.setRow g6 c) g2 g4 g5 g6 c2 c5 q' := by
 obtain ⟨c6, _, h6⟩ := h.b6
 exact ⟨setRow_below (h.below.trans (hb.mono h.below.size)) hl _, (setRow_other _ _ _ _ n2).trans (block_below hb (lt_of_heap h.b2) h.b2), (setRow_other _ _ _ _ n4).trans (block_below hb (lt_of_heap h.b4) h.b4), (setRow_other _ _ _ _ n5).trans (block_below hb (lt_of_heap h.b5) h.b5), c, hc, setRow_heap _ _ _ _ _ _ (block_below hb (lt_of_heap h6) h6)⟩
theorem cMulP {p : Pt} {v1 v2 : Value} {l : List Nat} (w w0 : World) (hT : Tab w) (h1 : PtV p v1 w0) (h2 : Bts l v2 w) (hd : Dig l) (hl32 : l.length ≤ 32) : Ret 34 #[v1, v2] w (PtV (p.nm (valD l))) := by
 obtain ⟨cs1, rfl, hp1⟩ := h1
 obtain ⟨X1, Y1, Z1, T1, h41, hr1⟩ := id hp1
 obtain ⟨ad, cap, rfl, hcap, hcap2, hv⟩ := h2
 obtain ⟨len, hlen⟩ : ∃ n, n = l.length := ⟨_, rfl⟩
 rw [← hlen] at hcap hl32 ⊢
 have HLEN : Hid (l.length = len) := hlen.symm
 clear hlen
 unfold Ret
 have hO0 : Below w.heap.size w w := Below.refl _ _
 go_enter Tryz.func34, Tryz.ntmps34
 refine wp_seq_k fun K1 hK1 => ?_
 refine wp_plain_inv 2 (specs [Box w.heap.size (cs1) 60, Box w.heap.size (ptc zeroE zeroE zeroE zeroE) 60]) (specs_stb ⟨Box.stb _ _ _, Box.stb _ _ _, trivial⟩) (by kernel_rfl) ?_ ?_
 ·refine ⟨fun a w hB hfr hdep => Step.plain rfl (dBox29 hB.size rfl (hfr 0 (by kernel_rfl)) h41),
   fun a w hB hfr hdep => Step.plain rfl (dAlloc29 hB.size rfl), trivial⟩
 intro u1 hb1
 simp only [List.take, List.drop, FinAll, Act.put, lA, lS, lZ]
 rintro _ ⟨g2_1, rfl, l2_1, m2_1⟩ _ ⟨g4_1, rfl, l4_1, m4_1⟩
 have hO1 := (hO0).trans (hb1.mono (hO0).size)
 have lwm2_1 := Nat.le_trans (hO0).size l2_1
 have lwm4_1 := Nat.le_trans (hO0).size l4_1
 have hT1 := Tab.below hT hb1
 refine hK1 _ _ ?_
 clear hK1 K1
 refine wp_seq_k fun K2 hK2 => ?_
 refine wp_plain_inv 2 (specs [El (dd + dd), Box u1.heap.size (elc zeroE) 58]) (specs_stb ⟨El.stb _, Box.stb _ _ _, trivial⟩) (by kernel_rfl) ?_ ?_
 ·refine ⟨fun a w hB hfr hdep => Step.plain rfl (Does.call 73 #[] (by kernel_rfl) (cTwiceD w (Tab.below hT1 hB))),
   fun a w hB hfr hdep => Step.plain rfl (dAlloc27 hB.size rfl), trivial⟩
 intro u2 hb2
 simp only [List.take, List.drop, FinAll, Act.put, lA, lS, lZ]
 rintro _ ⟨e9_2, q9_2, rfl, x9_2⟩ _ ⟨g5_2, rfl, l5_2, m5_2⟩
 refine wpList_store_row rfl 58 (.tmp 5) (.tmp 9) rfl _ (elc e9_2) rfl rfl 58 _ m5_2 info26 rfl (elc_one _) ?_
 have n5_2 := setRow_heap _ _ _ (elc e9_2) _ _ m5_2
 replace hb2 := setRow_below hb2 l5_2 (elc e9_2)
 generalize hw2_1 : u2.setRow g5_2 (elc e9_2) = u2_1 at n5_2 hb2  ⊢
 clear hw2_1 m5_2
 have hO2 := (hO1).trans (hb2.mono (hO1).size)
 have m2_1__2 := block_below hb2 (lt_of_heap m2_1) m2_1
 have m4_1__2 := block_below hb2 (lt_of_heap m4_1) m4_1
 have lwn5_2 := Nat.le_trans (hO1).size l5_2
 have hT2 := Tab.below hT1 hb2
 refine hK2 _ _ ?_
 clear hK2 K2
 refine wp_seq_k fun K3 hK3 => ?_
 refine wp_plain_inv 2 (specs [PtV (Pt.zero), Box u2_1.heap.size (ptc zeroE zeroE zeroE zeroE) 60]) (specs_stb ⟨PtV.stb _, Box.stb _ _ _, trivial⟩) (by kernel_rfl) ?_ ?_
 ·refine ⟨fun a w hB hfr hdep => Step.plain rfl (Does.call 74 #[] (by kernel_rfl) (cZero w)),
   fun a w hB hfr hdep => Step.plain rfl (dAlloc29 hB.size rfl), trivial⟩
 intro u3 hb3
 simp only [List.take, List.drop, FinAll, Act.put, lA, lS, lZ]
 rintro _ ⟨e10_3, rfl, x10_3⟩ _ ⟨g6_3, rfl, l6_3, m6_3⟩
 refine wpList_store_row rfl 60 (.tmp 6) (.tmp 10) rfl _ (e10_3) rfl rfl 60 _ m6_3 (by rw [cellsP_size x10_3]; exact info29) (by rw [cellsP_size x10_3]; rfl) (cellsP_one x10_3) ?_
 have n6_3 := setRow_heap _ _ _ (e10_3) _ _ m6_3
 replace hb3 := setRow_below hb3 l6_3 (e10_3)
 generalize hw3_1 : u3.setRow g6_3 (e10_3) = u3_1 at n6_3 hb3  ⊢
 clear hw3_1 m6_3
 have hO3 := (hO2).trans (hb3.mono (hO2).size)
 have m2_1__3 := block_below hb3 (lt_of_heap m2_1__2) m2_1__2
 have m4_1__3 := block_below hb3 (lt_of_heap m4_1__2) m4_1__2
 have n5_2__3 := block_below hb3 (lt_of_heap n5_2) n5_2
 have lwn6_3 := Nat.le_trans (hO2).size l6_3
 have hT3 := Tab.below hT2 hb3
 refine hK3 _ _ ?_
 clear hK3 K3
 have hmi : ¬ (32 < (len : Int)) := by omega
 have lwm4_1' : w.heap.size ≤ g4_1 := lwm4_1
 have n2 : g2_1 ≠ g6_3 := by have := lt_of_heap m2_1__2; omega
 have n4 : g4_1 ≠ g6_3 := by have := lt_of_heap m4_1__2; omega
 have n5 : g5_2 ≠ g6_3 := by have := lt_of_heap n5_2; omega
 have hR0 : Hid (RelM w u3_1 g2_1 g4_1 g5_2 g6_3 cs1 (elc e9_2) (p.nm (valD (l.drop len)))) := by
  show RelM _ _ _ _ _ _ _ _ _
  rw [List.drop_of_length_le (by rw [HLEN.out]; exact Nat.le_refl _)]
  exact ⟨hO3, m2_1__3, m4_1__3, n5_2__3, e10_3, x10_3, n6_3⟩
 have hd2 : El (dd + dd) (.agg (elc e9_2)) w := ⟨_, q9_2, rfl, x9_2⟩
 have hpv : PtV p (.agg cs1) w := ⟨_, rfl, hp1⟩
 have hs1 : cs1.size = 20 := cellsP_size hp1
 obtain ⟨c5, hc5⟩ : ∃ c, c = elc e9_2 := ⟨_, rfl⟩
 have hs5 : c5.size = 5 := by rw [hc5]; rfl
 rw [← hc5] at hR0 hd2 ⊢
 clear hc5 hO0 hb1 l2_1 m2_1 l4_1 m4_1 hO1 lwm2_1 lwm4_1 l5_2 n5_2 hb2 hO2 m2_1__2 m4_1__2 lwn5_2 hT2 l6_3 n6_3 hb3 hO3 m2_1__3 m4_1__3 n5_2__3 hT3 hT hT1 x10_3 q9_2 x9_2 h41 hr1 hp1
 go_wp2_with fail
 go_loopw [7] (fun i wr => ∃ j : Nat, j ≤ len ∧ i = .int .i64 ((j : Int) - 1) ∧ RelM w wr g2_1 g4_1 g5_2 g6_3 cs1 c5 (p.nm (valD (l.drop j)))) (fun i _ => (intOf i + 1).toNat)
 case atStart => exact ⟨len, Nat.le_refl _, rfl, hR0.out⟩
 case round =>
  obtain ⟨j, hj, rfl, hR⟩ := hrel
  clear hR0
  by_cases hj0 : j = 0
  ·subst hj0
   obtain ⟨hB, hb2, hb4, hb5, c6, hc6, hb6⟩ := hR
   have hs6 : c6.size = 20 := cellsP_size hc6
   have ho6 := cellsP_one hc6
   have HC6 : Hid (CellsP c6 (p.nm (valD (l.drop 0)))) := hc6
   clear hc6
   go_wp2_with (first
    | (refine wpList_load_row rfl 60 (.tmp 6) rfl _ rfl 60 c6 (0, 0) _ hb6 Tryz.underlying60 rfl (by rw [hs6]; exact info29) ?_)
    | (refine wpList_store_row rfl 60 (.tmp 4) (.tmp 39) rfl _ c6 rfl rfl 60 _ hb4 (by rw [hs6]; exact info29) (by rw [hs6]; rfl) ho6 ?_))
   refine bodyPost_ret (v := .agg c6) ?_ rfl ⟨_, rfl, setRow_below hB lwm4_1' _, c6, rfl, HC6.out⟩
   exact results_cell_row Tryz.results34 _ _ _ 60 _ (0, 0) _ rfl (setRow_heap _ _ _ _ _ _ hb4) Tryz.underlying60 rfl (by rw [hs6]; exact info29)
  ·obtain ⟨i, rfl⟩ : ∃ i, j = i + 1 := ⟨j - 1, by omega⟩
   have eI : (((i + 1 : Nat) : Int) - 1) = (i : Int) := by omega
   rw [eI]
   obtain ⟨gx, off, rfl, hc⟩ := hv (by rw [HLEN.out]; omega)
   have hci := hc i (by rw [HLEN.out]; omega)
   have hgx := block_lt_of_cell hci
   obtain ⟨c, hcc⟩ : ∃ c, c = l.getD i 0 := ⟨_, rfl⟩
   have hcl : c < 256 := by rw [hcc]; exact hd i
   rw [← hcc] at hci
   have HD : Hid (valD (l.drop i) = c + 256 * valD (l.drop (i + 1))) := by show _ = _; rw [hcc]; exact drop_val l i
   obtain ⟨E, hE⟩ : ∃ E, E = valD (l.drop (i + 1)) := ⟨_, rfl⟩
   rw [← hE] at HD hR
   clear hcc hE hc eI
   have hR0 : RelM w wr g2_1 g4_1 g5_2 g6_3 cs1 c5 (p.nm (E * 2 ^ (8 - 8) + c / 2 ^ 8)) := by
    rw [Nat.div_eq_of_lt hcl, Nat.sub_self, Nat.pow_zero, Nat.mul_one, Nat.add_zero]; exact hR
   clear hR
   go_wp2_with fail
   go_loopw [8] (fun b wr => ∃ t : Nat, t ≤ 8 ∧ b = .int .i64 ((t : Int) - 1) ∧ RelM w wr g2_1 g4_1 g5_2 g6_3 cs1 c5 (p.nm (E * 2 ^ (8 - t) + c / 2 ^ t))) (fun b _ => (intOf b + 1).toNat)
   case atStart => exact ⟨8, Nat.le_refl _, rfl, hR0⟩
   case round =>
    obtain ⟨t, ht, rfl, hR⟩ := hrel
    clear hR0
    by_cases ht0 : t = 0
    ·subst ht0
     have HR : Hid (RelM w wr g2_1 g4_1 g5_2 g6_3 cs1 c5 (p.nm (valD (l.drop i)))) := by
      show RelM _ _ _ _ _ _ _ _ _
      rw [HD.out]
      have e : E * 2 ^ (8 - 0) + c / 2 ^ 0 = c + 256 * E := by simp; omega
      rw [← e]; exact hR
     clear hR
     go_wp2
     go_roundw
     case rel => exact ⟨i, by omega, rfl, HR.out⟩
     case measure => simp [intOf]
    ·obtain ⟨b, rfl⟩ : ∃ b, t = b + 1 := ⟨t - 1, by omega⟩
     have eB : (((b + 1 : Nat) : Int) - 1) = (b : Int) := by omega
     rw [eB]
     clear eB
     obtain ⟨N, hN⟩ : ∃ N, N = E * 2 ^ (8 - (b + 1)) + c / 2 ^ (b + 1) := ⟨_, rfl⟩
     have HN : Hid (E * 2 ^ (8 - b) + c / 2 ^ b = 2 * N + c / 2 ^ b % 2) := by
      show _ = _
      rw [hN, Nat.mul_add, show 8 - b = 8 - (b + 1) + 1 by omega, Nat.pow_succ]
      have := bit_step c b
      have h3 : E * (2 ^ (8 - (b + 1)) * 2) = 2 * (E * 2 ^ (8 - (b + 1))) := by rw [← Nat.mul_assoc, Nat.mul_comm]
      omega
     rw [← hN] at hR
     have HB : Hid (RelM w wr g2_1 g4_1 g5_2 g6_3 cs1 c5 (p.nm N)) := hR
     obtain ⟨hB, hb2, hb4, hb5, c6, hc6, hb6⟩ := hR
     have hs6 : c6.size = 20 := cellsP_size hc6
     have hpl := fun w1 => cPlus w1 w w w (v1 := .agg c6) (v2 := .agg c6) (v3 := .agg c5) ⟨c6, rfl, hc6⟩ ⟨c6, rfl, hc6⟩ hd2
     unfold Ret at hpl
     have hcb : c / 2 ^ b < 256 := Nat.lt_of_le_of_lt (Nat.div_le_self _ _) hcl
     have hand := and1_8 (c / 2 ^ b) hcb
     simp only [Int.natCast_ediv, Int.natCast_pow, Int.cast_ofNat_Int] at hand
     clear hN ht0 hc6
     go_wp2_with (first
      | (refine wpList_load_row rfl 60 (.tmp 6) rfl _ rfl 60 c6 (0, 0) _ hb6 Tryz.underlying60 rfl (by rw [hs6]; exact info29) ?_)
      | (refine wpList_load_row rfl 58 (.tmp 5) rfl _ rfl 58 c5 (0, 0) _ hb5 Tryz.underlying58 rfl (by rw [hs5]; exact info26) ?_))
     refine (hpl _).mono ?_
     rintro e w2 ⟨v26, rfl, hb26, c7, rfl, hc7⟩
     have hs7 : c7.size = 20 := cellsP_size hc7
     have ho7 := cellsP_one hc7
     have hb6' := block_below hb26 (lt_of_heap hb6) hb6
     have HR2 : Hid (RelM w (w2.setRow g6_3 c7) g2_1 g4_1 g5_2 g6_3 cs1 c5 (p.nm (2 * N))) := by
      show RelM _ _ _ _ _ _ _ _ _
      have e2 : p.nm (2 * N) = (p.nm N).add (p.nm N) := by rw [Nat.two_mul, Pt.nm_add]
      rw [e2]
      exact HB.out.grow hb26 n2 n4 n5 lwn6_3 hc7
     have hcell : (w2.setRow g6_3 c7).cell? ⟨gx, off + i, none⟩ = some (.int .u8 (c : Int)) := by
      rw [cell_setRow_other _ _ _ _ (by show gx ≠ g6_3; omega)]
      exact (hb26.cell (p := ⟨gx, off + i, none⟩) (by have := hB.size; show gx < _; omega)).trans ((hB.cell (p := ⟨gx, off + i, none⟩) hgx).trans hci)
     clear hb26 hpl hb6 hb2 hb4 hb5 hB HB
     by_cases hodd : c / 2 ^ b % 2 = 1
     ·have ho2 : bits BinOp.and IntKind.u8 ((c : Int) / 2 ^ b) 1 = 1 := by rw [hand, hodd]; rfl
      have HO : Hid (c / 2 ^ b % 2 = 1) := hodd
      clear hodd hand
      obtain ⟨hB3, hx3, hz3, hd3, c8, hc8, hp3⟩ := HR2.out
      have hpl := fun w1 => cPlus w1 w w w (v1 := .agg c8) (v2 := .agg cs1) (v3 := .agg c5) ⟨c8, rfl, hc8⟩ hpv hd2
      unfold Ret at hpl
      have hs8 : c8.size = 20 := cellsP_size hc8
      clear hc8
      go_wp2_with (first
       | (refine wpList_store_row rfl 60 (.tmp 6) (.tmp 26) rfl _ c7 rfl rfl 60 _ hb6' (by rw [hs7]; exact info29) (by rw [hs7]; exact hs6) ho7 ?_)
       | (refine wpList_load_row rfl 60 (.tmp 6) rfl _ rfl 60 c8 (0, 0) _ hp3 Tryz.underlying60 rfl (by rw [hs8]; exact info29) ?_)
       | (refine wpList_load_row rfl 60 (.tmp 2) rfl _ rfl 60 cs1 (0, 0) _ hx3 Tryz.underlying60 rfl (by rw [hs1]; exact info29) ?_)
       | (refine wpList_load_row rfl 58 (.tmp 5) rfl _ rfl 58 c5 (0, 0) _ hd3 Tryz.underlying58 rfl (by rw [hs5]; exact info26) ?_))
      refine (hpl _).mono ?_
      rintro e w4 ⟨v38, rfl, hb38, c9, rfl, hc9⟩
      have hs9 : c9.size = 20 := cellsP_size hc9
      have ho9 := cellsP_one hc9
      have hp4 := block_below hb38 (lt_of_heap hp3) hp3
      have HR4 : Hid (RelM w (w4.setRow g6_3 c9) g2_1 g4_1 g5_2 g6_3 cs1 c5 (p.nm (E * 2 ^ (8 - b) + c / 2 ^ b))) := by
       show RelM _ _ _ _ _ _ _ _ _
       rw [HN.out, HO.out, Pt.nm_succ]
       exact HR2.out.grow hb38 n2 n4 n5 lwn6_3 hc9
      clear hb38 hpl hB3 hx3 hz3 hd3 hp3 HR2 hcell hb6'
      go_wp2_with (refine wpList_store_row rfl 60 (.tmp 6) (.tmp 38) rfl _ c9 rfl rfl 60 _ hp4 (by rw [hs9]; exact info29) (by rw [hs9]; exact hs8) ho9 ?_)
      go_roundw
      case rel => exact ⟨b, by omega, rfl, HR4.out⟩
      case measure => simp [intOf]
     ·have hz2 : c / 2 ^ b % 2 = 0 := by omega
      have ho2 : bits BinOp.and IntKind.u8 ((c : Int) / 2 ^ b) 1 = 0 := by rw [hand, hz2]; rfl
      have HR4 : Hid (RelM w (w2.setRow g6_3 c7) g2_1 g4_1 g5_2 g6_3 cs1 c5 (p.nm (E * 2 ^ (8 - b) + c / 2 ^ b))) := by
       show RelM _ _ _ _ _ _ _ _ _
       rw [HN.out, hz2, Nat.add_zero]
       exact HR2.out
      clear hodd hand hz2 HR2
      go_wp2_with (refine wpList_store_row rfl 60 (.tmp 6) (.tmp 26) rfl _ c7 rfl rfl 60 _ hb6' (by rw [hs7]; exact info29) (by rw [hs7]; exact hs6) ho7 ?_)
      go_roundw
      case rel => exact ⟨b, by omega, rfl, HR4.out⟩
      case measure => simp [intOf]
end Go.Proofs.YtabgihjffjlfiaaGreatDoor
set_option linter.unusedVariables false
namespace Go.Proofs.YtabgihjffjlfiaaGreatDoor
open Go.RowKit Go.Sort Go.BigFrame
set_option maxRecDepth 100000
set_option maxHeartbeats 2000000
theorem or128 (x : Nat) (h : x < 128) : bits .or .u8 (x : Int) 128 = ((x + 128 : Nat) : Int) := by
 have : ∀ y < 128, bits .or .u8 ((y : Nat) : Int) 128 = ((y + 128 : Nat) : Int) := by decide
 exact this x h
theorem p31 : (256 : Nat) ^ 31 * 128 = t255 := by decide
theorem t255_lt : t255 * 2 = 256 ^ 32 := by decide
theorem digs_high {y : Nat} (h : y < t255) : (digs 32 y).set 31 (y / 256 ^ 31 + 128) = digs 32 (y + t255) := by
 have hq := pos256 31
 have h31 := p31
 have hy : y / 256 ^ 31 < 128 := by rw [Nat.div_lt_iff_lt_mul hq, Nat.mul_comm]; omega
 refine digs_of ((digs_dig 32 y).set (by omega)) (by rw [List.length_set, digs_len]) ?_
 have hv := valD_set (digs 32 y) 31 (y / 256 ^ 31 + 128) (by rw [digs_len]; omega)
 rw [digs_get _ _ _ (by omega), valD_digs_lt (by have := t255_lt; omega), Nat.mod_eq_of_lt (show y / 256 ^ 31 < 256 by omega), Nat.mul_add, h31] at hv
 omega
theorem aff_of {X Y Z T : Fe} {p : Pt} (h : Rep X Y Z T p) : X * fin Z = p.x ∧ Y * fin Z = p.y := by
 obtain ⟨h0, h1, h2, h3⟩ := h
 have hi := mul_fin h0
 constructor
 ·rw [← h1]; grobner
 ·rw [← h2]; grobner
theorem cPBytes {p : Pt} {v1 : Value} (w w0 : World) (h1 : PtV p v1 w0) : Ret 38 #[v1] w (Own w.heap.size (digs 32 p.enc)) := by
 obtain ⟨cs1, rfl, X1, Y1, Z1, T1, h41, hr1⟩ := h1
 obtain ⟨ax, ay⟩ := aff_of hr1
 unfold Ret
 have hO0 : Below w.heap.size w w := Below.refl _ _
 go_enter Tryz.func38, Tryz.ntmps38
 refine wp_seq_k fun K1 hK1 => ?_
 refine wp_plain_inv 2 (specs [Box w.heap.size (cs1) 60, Is (.slice none 0 0)]) (specs_stb ⟨Box.stb _ _ _, Is.stb _, trivial⟩) (by kernel_rfl) ?_ ?_
 ·refine ⟨fun a w hB hfr hdep => Step.plain rfl (dBox29 hB.size rfl (hfr 0 (by kernel_rfl)) h41),
   fun a w hB hfr hdep => Step.plain rfl (dAssign (R := Is (.slice none 0 0)) rfl rfl), trivial⟩
 intro u1 hb1
 simp only [List.take, List.drop, FinAll, Act.put, lA, lS, lZ]
 rintro _ ⟨g1_1, rfl, l1_1, m1_1⟩ _ rfl
 have hO1 := (hO0).trans (hb1.mono (hO0).size)
 have lwm1_1 := Nat.le_trans (hO0).size l1_1
 refine hK1 _ _ ?_
 clear hK1 K1
 refine wp_seq_k fun K2 hK2 => ?_
 refine wp_plain_inv 4 (specs [Is (.pointer (some ⟨g1_1, 10, none⟩)), El (Z1), El (fin (Z1)), Box u1.heap.size (elc zeroE) 58]) (specs_stb ⟨Is.stb _, El.stb _, El.stb _, Box.stb _ _ _, trivial⟩) (by kernel_rfl) ?_ ?_
 ·refine ⟨fun a w hB hfr hdep => Step.plain rfl (dFa29 g1_1 2 (by decide) rfl (hfr 1 (by kernel_rfl))),
   fun a w hB hfr hdep => Step.plain rfl (dLoadPart (k := 2) h41 (block_below hB (lt_of_heap m1_1) m1_1) (by decide) rfl (hdep 0 5 (by kernel_rfl)) (fun _ h => h)),
   fun a w hB hfr hdep => Step.plain rfl (Does.call 76 #[(a.eval (.tmp 6))] (by kernel_rfl) (cInv w w (hdep 1 6 (by kernel_rfl)))),
   fun a w hB hfr hdep => Step.plain rfl (dAlloc27 hB.size rfl), trivial⟩
 intro u2 hb2
 simp only [List.take, List.drop, FinAll, Act.put, lA, lS, lZ]
 rintro _ rfl v6_2 h6_2 _ ⟨e7_2, q7_2, rfl, x7_2⟩ _ ⟨g3_2, rfl, l3_2, m3_2⟩
 refine wpList_store_row rfl 58 (.tmp 3) (.tmp 7) rfl _ (elc e7_2) rfl rfl 58 _ m3_2 info26 rfl (elc_one _) ?_
 have n3_2 := setRow_heap _ _ _ (elc e7_2) _ _ m3_2
 replace hb2 := setRow_below hb2 l3_2 (elc e7_2)
 generalize hw2_1 : u2.setRow g3_2 (elc e7_2) = u2_1 at n3_2 hb2  ⊢
 clear hw2_1 m3_2
 have hO2 := (hO1).trans (hb2.mono (hO1).size)
 have m1_1__2 := block_below hb2 (lt_of_heap m1_1) m1_1
 have lwn3_2 := Nat.le_trans (hO1).size l3_2
 refine hK2 _ _ ?_
 clear hK2 K2
 refine wp_seq_k fun K3 hK3 => ?_
 refine wp_plain_inv 6 (specs [Is (.pointer (some ⟨g1_1, 5, none⟩)), El (Y1), El (fin (Z1)), El ((Y1) * (fin (Z1))), Own u2_1.heap.size (digs 32 (Fin.val ((Y1) * (fin (Z1))))), Own u2_1.heap.size (digs 32 (Fin.val ((Y1) * (fin (Z1)))))]) (specs_stb ⟨Is.stb _, El.stb _, El.stb _, El.stb _, Own.stb _ _, Own.stb _ _, trivial⟩) (by kernel_rfl) ?_ ?_
 ·refine ⟨fun a w hB hfr hdep => Step.plain rfl (dFa29 g1_1 1 (by decide) rfl (hfr 1 (by kernel_rfl))),
   fun a w hB hfr hdep => Step.plain rfl (dLoadPart (k := 1) h41 (block_below hB (lt_of_heap m1_1__2) m1_1__2) (by decide) rfl (hdep 0 8 (by kernel_rfl)) (fun _ h => h)),
   fun a w hB hfr hdep => Step.plain rfl (dLoadEl q7_2 x7_2 (block_below hB (lt_of_heap n3_2) n3_2) rfl (hfr 3 (by kernel_rfl)) (fun _ h => h)),
   fun a w hB hfr hdep => Step.plain rfl (Does.call 77 #[(a.eval (.tmp 9)), (a.eval (.tmp 10))] (by kernel_rfl) (cMul w w w (hdep 1 9 (by kernel_rfl)) (hdep 2 10 (by kernel_rfl)))),
   fun a w hB hfr hdep => Step.plain rfl (Does.call 78 #[(a.eval (.tmp 11))] (by kernel_rfl) (ownLo hB.size (cBytes w w (hdep 3 11 (by kernel_rfl))))),
   fun a w hB hfr hdep => Step.plain rfl (dAssign (R := Own u2_1.heap.size (digs 32 (Fin.val ((Y1) * (fin (Z1)))))) rfl (hdep 4 12 (by kernel_rfl))), trivial⟩
 intro u3 hb3
 simp only [List.take, List.drop, FinAll, Act.put, lA, lS, lZ]
 rintro _ rfl v9_3 h9_3 v10_3 h10_3 v11_3 h11_3 v12_3 h12_3 v4_3 h4_3
 have hO3 := (hO2).trans (hb3.mono (hO2).size)
 have m1_1__3 := block_below hb3 (lt_of_heap m1_1__2) m1_1__2
 have n3_2__3 := block_below hb3 (lt_of_heap n3_2) n3_2
 refine hK3 _ _ ?_
 clear hK3 K3
 refine wp_seq_k fun KO hKO => ?_
 refine wp_seq_k fun K4 hK4 => ?_
 refine wp_plain_inv 5 (specs [Is (.pointer (some ⟨g1_1, 0, none⟩)), El (X1), El (fin (Z1)), El ((X1) * (fin (Z1))), Is (.bool (decide (Fin.val ((X1) * (fin (Z1))) % 2 = 1)))]) (specs_stb ⟨Is.stb _, El.stb _, El.stb _, El.stb _, Is.stb _, trivial⟩) (by kernel_rfl) ?_ ?_
 ·refine ⟨fun a w hB hfr hdep => Step.plain rfl (dFa29 g1_1 0 (by decide) rfl (hfr 1 (by kernel_rfl))),
   fun a w hB hfr hdep => Step.plain rfl (dLoadPart (k := 0) h41 (block_below hB (lt_of_heap m1_1__3) m1_1__3) (by decide) rfl (hdep 0 13 (by kernel_rfl)) (fun _ h => h)),
   fun a w hB hfr hdep => Step.plain rfl (dLoadEl q7_2 x7_2 (block_below hB (lt_of_heap n3_2__3) n3_2__3) rfl (hfr 3 (by kernel_rfl)) (fun _ h => h)),
   fun a w hB hfr hdep => Step.plain rfl (Does.call 77 #[(a.eval (.tmp 14)), (a.eval (.tmp 15))] (by kernel_rfl) (cMul w w w (hdep 1 14 (by kernel_rfl)) (hdep 2 15 (by kernel_rfl)))),
   fun a w hB hfr hdep => Step.plain rfl (Does.call 68 #[(a.eval (.tmp 16))] (by kernel_rfl) (cOdd w w (hdep 3 16 (by kernel_rfl)))), trivial⟩
 intro u4 hb4
 simp only [List.take, List.drop, FinAll, Act.put, lA, lS, lZ]
 rintro _ rfl v14_4 h14_4 v15_4 h15_4 v16_4 h16_4 _ rfl
 have hO4 := (hO3).trans (hb4.mono (hO3).size)
 have m1_1__4 := block_below hb4 (lt_of_heap m1_1__3) m1_1__3
 have n3_2__4 := block_below hb4 (lt_of_heap n3_2__3) n3_2__3
 refine hK4 _ _ ?_
 clear hK4 K4
 obtain ⟨g, hv, hg, hrow⟩ := ((Own.stb _ _) _ _ _ hb4 h4_3)
 rw [digs_len] at hv
 subst hv
 have hlow : w.heap.size ≤ g := Nat.le_trans hO2.size hg
 have hO := hO4
 rw [ay] at hrow
 rw [ax]
 obtain ⟨yv, hyv⟩ : ∃ y, y = p.y.val := ⟨_, rfl⟩
 have hyp := p.y.isLt
 have hpt := pp_t
 have hq := pos256 31
 have hy128 : yv / 256 ^ 31 < 128 := by rw [Nat.div_lt_iff_lt_mul hq, Nat.mul_comm, p31]; omega
 rw [← hyv] at hrow
 by_cases hodd : p.x.val % 2 = 1
 ·have HE : Hid (p.enc = yv + t255) := by show _ = _; unfold Pt.enc; rw [hodd, hyv, Nat.mul_one]
  have c31 := cell_ints hrow 31 (by rw [digs_len]; omega)
  rw [digs_get _ _ _ (by omega), Nat.mod_eq_of_lt (show yv / 256 ^ 31 < 256 by omega)] at c31
  have f31 := free_ints hrow 31
  have hset := set_ints hrow 31 (yv / 256 ^ 31 + 128)
  rw [digs_high (by omega)] at hset
  have hO' := hO.setCell (p := ⟨g, 31, none⟩) hlow (.int .u8 ((yv / 256 ^ 31 + 128 : Nat) : Int))
  obtain ⟨z, hz⟩ : ∃ z, z = yv / 256 ^ 31 := ⟨_, rfl⟩
  rw [← hz] at c31 hset hO' hy128
  have ho := or128 z hy128
  rw [decide_eq_true hodd]
  have HS : Hid ((u4.setCell ⟨g, 31, none⟩ (.int .u8 ((z + 128 : Nat) : Int))).heap[g]? = some (.cells (ints .u8 (digs 32 (yv + t255))) 5 (0, 0))) := hset
  have HO' : Hid (Below w.heap.size w (u4.setCell ⟨g, 31, none⟩ (.int .u8 ((z + 128 : Nat) : Int)))) := hO'
  clear hset hO' hrow hO hz hyv hyp hpt hq hodd
  refine wp_cond_true rfl ?_
  go_wp2
  go_ret
  exact ⟨_, rfl, HO'.out, g, by rw [digs_len]; rfl, hlow, by rw [HE.out]; exact HS.out⟩
 ·have HE : Hid (p.enc = yv) := by show _ = _; unfold Pt.enc; rw [show p.x.val % 2 = 0 by omega, hyv]; simp
  rw [decide_eq_false hodd]
  refine wp_cond_false rfl ?_
  refine wp_skip ?_
  refine hKO _ _ ?_
  clear hKO hyv hyp hpt hq hodd hy128
  go_wp2
  go_ret
  exact ⟨_, rfl, hO, g, by rw [digs_len]; rfl, hlow, by rw [HE.out]; exact hrow⟩
end Go.Proofs.YtabgihjffjlfiaaGreatDoor
set_option linter.unusedVariables false
namespace Go.Proofs.YtabgihjffjlfiaaGreatDoor
open Go.RowKit Go.Sort Go.BigFrame
set_option maxRecDepth 100000
set_option maxHeartbeats 2000000
theorem Tab5.setRow {w w' : World} (h : Tab5 w) (hb : Below w.heap.size w w') {g : Nat} {cs : Array Value} (hg : 6 < g) : Tab5 (w'.setRow g cs) := by
 have h' := h.below hb
 have o : ∀ (k : Nat) (l : List Nat), k < 6 + 1 → BytesAt w' k 0 l → BytesAt (w'.setRow g cs) k 0 l := fun k l hk hl i hi => by
  rw [cell_setRow_other _ _ _ _ (by show k ≠ g; omega)]; exact hl i hi
 exact ⟨⟨o 0 _ (by omega) h'.t0, o 1 _ (by omega) h'.t1, o 2 _ (by omega) h'.t2⟩, o 5 _ (by omega) h'.t3, o 6 _ (by omega) h'.t4⟩
theorem Tab5.size {w : World} (h : Tab5 w) : 6 < w.heap.size := block_lt_of_cell (h.t4 0 (by decide))
theorem digrev {l : List Nat} (hd : Dig l) : Dig l.reverse := by
 intro j
 by_cases hj : j < l.reverse.length
 ·rw [List.getD_eq_getElem?_getD, List.getElem?_eq_getElem hj, Option.getD_some, List.getElem_reverse]
  have := hd (l.length - 1 - j)
  rw [List.getD_eq_getElem?_getD, List.getElem?_eq_getElem (by rw [List.length_reverse] at hj; omega), Option.getD_some] at this
  exact this
 ·rw [List.getD_eq_getElem?_getD, List.getElem?_eq_none (by omega)]; decide
def rootOf (e : Nat) (a : Fe) : Fe := if pw a e * pw a e = a then pw a e else pw a e * ii
theorem cPowE {x : Fe} {v1 v2 : Value} {l : List Nat} {e : Nat} (he : valD l = e) (w w0 : World) (h1 : El x v1 w0) (h2 : Bts l v2 w) (hl : l.length ≤ 64) (hd : Dig l) : Ret 95 #[v1, v2] w (El (pw x e)) := by
 rw [← he]; exact cPow w w0 h1 h2 hl hd
theorem cRoot {a : Fe} {v : Value} {e : Nat} (he : valD tab3.reverse = e) (w w0 : World) (hT : Tab5 w) (h : El a v w0) : Ret 91 #[v] w (Tup2 (El (rootOf e a)) (Is (.bool (decide (rootOf e a * rootOf e a = a))))) := by
 obtain ⟨d, hd, rfl, hx⟩ := h
 unfold Ret rootOf
 by_cases hr : (pw a e) * (pw a e) = (a)
 ·rw [if_pos hr]
  have hO0 : Below w.heap.size w w := Below.refl _ _
  go_enter Tryz.func91, Tryz.ntmps91
  refine wp_seq_k fun K1 hK1 => ?_
  refine wp_plain_inv 3 (specs [Box w.heap.size (elc d) 58, Box w.heap.size (elc zeroE) 58, Is (.bool false)]) (specs_stb ⟨Box.stb _ _ _, Box.stb _ _ _, Is.stb _, trivial⟩) (by kernel_rfl) ?_ ?_
  ·refine ⟨fun a w hB hfr hdep => Step.plain rfl (dBox27 hB.size rfl (hfr 0 (by kernel_rfl)) trivial),
    fun a w hB hfr hdep => Step.plain rfl (dAlloc27 hB.size rfl),
    fun a w hB hfr hdep => Step.plain rfl (dAssign (R := Is (.bool false)) rfl rfl), trivial⟩
  intro u1 hb1
  simp only [List.take, List.drop, FinAll, Act.put, lA, lS, lZ]
  rintro _ ⟨g1_1, rfl, l1_1, m1_1⟩ _ ⟨g2_1, rfl, l2_1, m2_1⟩ _ rfl
  have hO1 := (hO0).trans (hb1.mono (hO0).size)
  have lwm1_1 := Nat.le_trans (hO0).size l1_1
  have lwm2_1 := Nat.le_trans (hO0).size l2_1
  have hT1 := Tab5.below hT hb1
  refine hK1 _ _ ?_
  clear hK1 K1
  refine wp_seq_k fun K2 hK2 => ?_
  refine wp_region_inv 5 (specs [El (a), Is (.agg (ints .u8 tab3)), Own u1.heap.size (tab3.reverse), El (pw a e), Box u1.heap.size (elc zeroE) 58]) (by kernel_rfl) (specs_stb ⟨El.stb _, Is.stb _, Own.stb _ _, El.stb _, Box.stb _ _ _, trivial⟩) (by kernel_rfl) ?_ ?_
  ·refine ⟨fun a w hB hfr hdep => Step.plain rfl (dLoadEl hd hx (block_below hB (lt_of_heap m1_1) m1_1) rfl (hfr 1 (by kernel_rfl)) (fun _ h => h)),
    fun a w hB hfr hdep => Step.plain rfl (dLoadTab (Tab5.below hT1 hB).t3 rfl rfl rfl),
    fun a w hB hfr hdep => Step.plain rfl (Does.call 94 #[(a.eval (.tmp 6))] (by kernel_rfl) (ownLo hB.size (cTurned w w (hdep 1 6 (by kernel_rfl)) rfl))),
    fun a w hB hfr hdep => Step.plain rfl (Does.call 95 #[(a.eval (.tmp 5)), (a.eval (.tmp 7))] (by kernel_rfl) (cPowE he w w (hdep 0 5 (by kernel_rfl)) (Own.bts (hdep 2 7 (by kernel_rfl)) (by decide)) (by decide) (digrev tab3_dig))),
    fun a w hB hfr hdep => Step.plain rfl (dAlloc27 hB.size rfl), trivial⟩
  intro u2 hb2
  simp only [List.take, List.drop, FinAll, Act.put, lA, lS, lZ]
  rintro v5_2 h5_2 _ rfl v7_2 h7_2 _ ⟨e8_2, q8_2, rfl, x8_2⟩ _ ⟨g4_2, rfl, l4_2, m4_2⟩
  refine wpList_store_row rfl 58 (.tmp 4) (.tmp 8) rfl _ (elc e8_2) rfl rfl 58 _ m4_2 info26 rfl (elc_one _) ?_
  have n4_2 := setRow_heap _ _ _ (elc e8_2) _ _ m4_2
  replace hb2 := setRow_below hb2 l4_2 (elc e8_2)
  generalize hw2_1 : u2.setRow g4_2 (elc e8_2) = u2_1 at n4_2 hb2  ⊢
  clear hw2_1 m4_2
  have hO2 := (hO1).trans (hb2.mono (hO1).size)
  have m1_1__2 := block_below hb2 (lt_of_heap m1_1) m1_1
  have m2_1__2 := block_below hb2 (lt_of_heap m2_1) m2_1
  have lwn4_2 := Nat.le_trans (hO1).size l4_2
  have hT2 := Tab5.below hT1 hb2
  refine hK2 _ _ ?_
  clear hK2 K2
  refine wp_seq_k fun KO hKO => ?_
  refine wp_seq_k fun K3 hK3 => ?_
  refine wp_region_inv 6 (specs [El (pw a e), El (pw a e), El ((pw a e) * (pw a e)), El (a), Is (.bool true), Is (.bool false)]) (by kernel_rfl) (specs_stb ⟨El.stb _, El.stb _, El.stb _, El.stb _, Is.stb _, Is.stb _, trivial⟩) (by kernel_rfl) ?_ ?_
  ·refine ⟨fun a w hB hfr hdep => Step.plain rfl (dLoadEl q8_2 x8_2 (block_below hB (lt_of_heap n4_2) n4_2) rfl (hfr 4 (by kernel_rfl)) (fun _ h => h)),
    fun a w hB hfr hdep => Step.plain rfl (dLoadEl q8_2 x8_2 (block_below hB (lt_of_heap n4_2) n4_2) rfl (hfr 4 (by kernel_rfl)) (fun _ h => h)),
    fun a w hB hfr hdep => Step.plain rfl (Does.call 77 #[(a.eval (.tmp 9)), (a.eval (.tmp 10))] (by kernel_rfl) (cMul w w w (hdep 0 9 (by kernel_rfl)) (hdep 1 10 (by kernel_rfl)))),
    fun a w hB hfr hdep => Step.plain rfl (dLoadEl hd hx (block_below hB (lt_of_heap m1_1__2) m1_1__2) rfl (hfr 1 (by kernel_rfl)) (fun _ h => h)),
    fun a w hB hfr hdep => Step.plain rfl (Does.call 110 #[(a.eval (.tmp 11)), (a.eval (.tmp 12))] (by kernel_rfl) (cEqT hr w w w (hdep 2 11 (by kernel_rfl)) (hdep 3 12 (by kernel_rfl)))),
    fun a w hB hfr hdep => Step.plain rfl (Does.run _ (run_notO rfl (hdep 4 13 (by kernel_rfl))) rfl), trivial⟩
  intro u3 hb3
  simp only [List.take, List.drop, FinAll, Act.put, lA, lS, lZ]
  rintro v9_3 h9_3 v10_3 h10_3 v11_3 h11_3 v12_3 h12_3 _ rfl _ rfl
  have hO3 := (hO2).trans (hb3.mono (hO2).size)
  have m1_1__3 := block_below hb3 (lt_of_heap m1_1__2) m1_1__2
  have m2_1__3 := block_below hb3 (lt_of_heap m2_1__2) m2_1__2
  have n4_2__3 := block_below hb3 (lt_of_heap n4_2) n4_2
  have hT3 := Tab5.below hT2 hb3
  refine hK3 _ _ ?_
  clear hK3 K3
  refine wp_cond_false rfl ?_
  refine wp_skip ?_
  refine hKO _ _ ?_
  clear hKO KO
  refine wp_seq_k fun K4 hK4 => ?_
  refine wp_region_inv 6 (specs [El (pw a e), El (pw a e), El (pw a e), El ((pw a e) * (pw a e)), El (a), Is (.bool (decide (((pw a e) * (pw a e)) = (a))))]) (by kernel_rfl) (specs_stb ⟨El.stb _, El.stb _, El.stb _, El.stb _, El.stb _, Is.stb _, trivial⟩) (by kernel_rfl) ?_ ?_
  ·refine ⟨fun a w hB hfr hdep => Step.plain rfl (dLoadEl q8_2 x8_2 (block_below hB (lt_of_heap n4_2__3) n4_2__3) rfl (hfr 4 (by kernel_rfl)) (fun _ h => h)),
    fun a w hB hfr hdep => Step.plain rfl (dLoadEl q8_2 x8_2 (block_below hB (lt_of_heap n4_2__3) n4_2__3) rfl (hfr 4 (by kernel_rfl)) (fun _ h => h)),
    fun a w hB hfr hdep => Step.plain rfl (dLoadEl q8_2 x8_2 (block_below hB (lt_of_heap n4_2__3) n4_2__3) rfl (hfr 4 (by kernel_rfl)) (fun _ h => h)),
    fun a w hB hfr hdep => Step.plain rfl (Does.call 77 #[(a.eval (.tmp 20)), (a.eval (.tmp 21))] (by kernel_rfl) (cMul w w w (hdep 1 20 (by kernel_rfl)) (hdep 2 21 (by kernel_rfl)))),
    fun a w hB hfr hdep => Step.plain rfl (dLoadEl hd hx (block_below hB (lt_of_heap m1_1__3) m1_1__3) rfl (hfr 1 (by kernel_rfl)) (fun _ h => h)),
    fun a w hB hfr hdep => Step.plain rfl (Does.call 110 #[(a.eval (.tmp 22)), (a.eval (.tmp 23))] (by kernel_rfl) (cEq w w w (hdep 3 22 (by kernel_rfl)) (hdep 4 23 (by kernel_rfl)))), trivial⟩
  intro u4 hb4
  simp only [List.take, List.drop, FinAll, Act.put, lA, lS, lZ]
  rintro _ ⟨e19_4, q19_4, rfl, x19_4⟩ v20_4 h20_4 v21_4 h21_4 v22_4 h22_4 v23_4 h23_4 _ rfl
  have om2_1__3 := block_below hb4 (lt_of_heap m2_1__3) m2_1__3
  refine wpList_store_row rfl 58 (.tmp 2) (.tmp 19) rfl _ (elc e19_4) rfl rfl 58 _ om2_1__3 info26 rfl (elc_one _) ?_
  refine wpList_assign rfl rfl rfl ?_
  simp only [Act.put, Act.eval, Array.getD_eq_getD_getElem?, List.getElem?_toArray, List.getElem?_cons_succ, List.getElem?_cons_zero, Option.getD_some, lA, lS, lZ]
  have n2_4 := setRow_heap _ _ _ (elc e19_4) _ _ om2_1__3
  have hO4 := setRow_below (hO3.trans (hb4.mono (hO3).size)) lwm2_1 (elc e19_4)
  refine hK4 _ _ ?_
  clear hK4 K4
  refine wp_ret ?_
  refine bodyPost_ret (v := .tuple #[.agg (elc e19_4), .bool (decide ((pw a e) * (pw a e) = (a)))]) ?_ rfl ⟨_, rfl, hO4, ⟨_, _, rfl, ⟨_, q19_4, rfl, x19_4⟩, rfl⟩⟩
  exact results_cell_tmp Tryz.results91 _ _ _ 58 _ (0, 0) _ _ rfl rfl n2_4 Tryz.underlying58 rfl (by first | exact info26 | exact info29 | exact info35 | (rw [(Pt4.cells (by assumption)).1]; exact info29) | (rw [cellsP_size (by assumption)]; exact info29))
 ·rw [if_neg hr]
  have hO0 : Below w.heap.size w w := Below.refl _ _
  go_enter Tryz.func91, Tryz.ntmps91
  refine wp_seq_k fun K1 hK1 => ?_
  refine wp_plain_inv 3 (specs [Box w.heap.size (elc d) 58, Box w.heap.size (elc zeroE) 58, Is (.bool false)]) (specs_stb ⟨Box.stb _ _ _, Box.stb _ _ _, Is.stb _, trivial⟩) (by kernel_rfl) ?_ ?_
  ·refine ⟨fun a w hB hfr hdep => Step.plain rfl (dBox27 hB.size rfl (hfr 0 (by kernel_rfl)) trivial),
    fun a w hB hfr hdep => Step.plain rfl (dAlloc27 hB.size rfl),
    fun a w hB hfr hdep => Step.plain rfl (dAssign (R := Is (.bool false)) rfl rfl), trivial⟩
  intro u1 hb1
  simp only [List.take, List.drop, FinAll, Act.put, lA, lS, lZ]
  rintro _ ⟨g1_1, rfl, l1_1, m1_1⟩ _ ⟨g2_1, rfl, l2_1, m2_1⟩ _ rfl
  have hO1 := (hO0).trans (hb1.mono (hO0).size)
  have lwm1_1 := Nat.le_trans (hO0).size l1_1
  have lwm2_1 := Nat.le_trans (hO0).size l2_1
  have hT1 := Tab5.below hT hb1
  refine hK1 _ _ ?_
  clear hK1 K1
  refine wp_seq_k fun K2 hK2 => ?_
  refine wp_region_inv 5 (specs [El (a), Is (.agg (ints .u8 tab3)), Own u1.heap.size (tab3.reverse), El (pw a e), Box u1.heap.size (elc zeroE) 58]) (by kernel_rfl) (specs_stb ⟨El.stb _, Is.stb _, Own.stb _ _, El.stb _, Box.stb _ _ _, trivial⟩) (by kernel_rfl) ?_ ?_
  ·refine ⟨fun a w hB hfr hdep => Step.plain rfl (dLoadEl hd hx (block_below hB (lt_of_heap m1_1) m1_1) rfl (hfr 1 (by kernel_rfl)) (fun _ h => h)),
    fun a w hB hfr hdep => Step.plain rfl (dLoadTab (Tab5.below hT1 hB).t3 rfl rfl rfl),
    fun a w hB hfr hdep => Step.plain rfl (Does.call 94 #[(a.eval (.tmp 6))] (by kernel_rfl) (ownLo hB.size (cTurned w w (hdep 1 6 (by kernel_rfl)) rfl))),
    fun a w hB hfr hdep => Step.plain rfl (Does.call 95 #[(a.eval (.tmp 5)), (a.eval (.tmp 7))] (by kernel_rfl) (cPowE he w w (hdep 0 5 (by kernel_rfl)) (Own.bts (hdep 2 7 (by kernel_rfl)) (by decide)) (by decide) (digrev tab3_dig))),
    fun a w hB hfr hdep => Step.plain rfl (dAlloc27 hB.size rfl), trivial⟩
  intro u2 hb2
  simp only [List.take, List.drop, FinAll, Act.put, lA, lS, lZ]
  rintro v5_2 h5_2 _ rfl v7_2 h7_2 _ ⟨e8_2, q8_2, rfl, x8_2⟩ _ ⟨g4_2, rfl, l4_2, m4_2⟩
  refine wpList_store_row rfl 58 (.tmp 4) (.tmp 8) rfl _ (elc e8_2) rfl rfl 58 _ m4_2 info26 rfl (elc_one _) ?_
  have n4_2 := setRow_heap _ _ _ (elc e8_2) _ _ m4_2
  replace hb2 := setRow_below hb2 l4_2 (elc e8_2)
  generalize hw2_1 : u2.setRow g4_2 (elc e8_2) = u2_1 at n4_2 hb2  ⊢
  clear hw2_1 m4_2
  have hO2 := (hO1).trans (hb2.mono (hO1).size)
  have m1_1__2 := block_below hb2 (lt_of_heap m1_1) m1_1
  have m2_1__2 := block_below hb2 (lt_of_heap m2_1) m2_1
  have lwn4_2 := Nat.le_trans (hO1).size l4_2
  have hT2 := Tab5.below hT1 hb2
  refine hK2 _ _ ?_
  clear hK2 K2
  refine wp_seq_k fun KO hKO => ?_
  refine wp_seq_k fun K3 hK3 => ?_
  refine wp_region_inv 6 (specs [El (pw a e), El (pw a e), El ((pw a e) * (pw a e)), El (a), Is (.bool false), Is (.bool true)]) (by kernel_rfl) (specs_stb ⟨El.stb _, El.stb _, El.stb _, El.stb _, Is.stb _, Is.stb _, trivial⟩) (by kernel_rfl) ?_ ?_
  ·refine ⟨fun a w hB hfr hdep => Step.plain rfl (dLoadEl q8_2 x8_2 (block_below hB (lt_of_heap n4_2) n4_2) rfl (hfr 4 (by kernel_rfl)) (fun _ h => h)),
    fun a w hB hfr hdep => Step.plain rfl (dLoadEl q8_2 x8_2 (block_below hB (lt_of_heap n4_2) n4_2) rfl (hfr 4 (by kernel_rfl)) (fun _ h => h)),
    fun a w hB hfr hdep => Step.plain rfl (Does.call 77 #[(a.eval (.tmp 9)), (a.eval (.tmp 10))] (by kernel_rfl) (cMul w w w (hdep 0 9 (by kernel_rfl)) (hdep 1 10 (by kernel_rfl)))),
    fun a w hB hfr hdep => Step.plain rfl (dLoadEl hd hx (block_below hB (lt_of_heap m1_1__2) m1_1__2) rfl (hfr 1 (by kernel_rfl)) (fun _ h => h)),
    fun a w hB hfr hdep => Step.plain rfl (Does.call 110 #[(a.eval (.tmp 11)), (a.eval (.tmp 12))] (by kernel_rfl) (cEqF hr w w w (hdep 2 11 (by kernel_rfl)) (hdep 3 12 (by kernel_rfl)))),
    fun a w hB hfr hdep => Step.plain rfl (Does.run _ (run_notO rfl (hdep 4 13 (by kernel_rfl))) rfl), trivial⟩
  intro u3 hb3
  simp only [List.take, List.drop, FinAll, Act.put, lA, lS, lZ]
  rintro v9_3 h9_3 v10_3 h10_3 v11_3 h11_3 v12_3 h12_3 _ rfl _ rfl
  have hO3 := (hO2).trans (hb3.mono (hO2).size)
  have m1_1__3 := block_below hb3 (lt_of_heap m1_1__2) m1_1__2
  have m2_1__3 := block_below hb3 (lt_of_heap m2_1__2) m2_1__2
  have n4_2__3 := block_below hb3 (lt_of_heap n4_2) n4_2
  have hT3 := Tab5.below hT2 hb3
  refine hK3 _ _ ?_
  clear hK3 K3
  refine wp_cond_true rfl ?_
  have n1 : g1_1 ≠ g4_2 := by have := lt_of_heap m1_1; omega
  have n2 : g2_1 ≠ g4_2 := by have := lt_of_heap m2_1; omega
  have n5 : 6 < g4_2 := by have := hT.size; omega
  refine wp_region_inv 4 (specs [El (pw a e), Is (.agg (ints .u8 tab4)), El (ii), El ((pw a e) * (ii))]) (by kernel_rfl) (specs_stb ⟨El.stb _, Is.stb _, El.stb _, El.stb _, trivial⟩) (by kernel_rfl) ?_ ?_
  ·refine ⟨fun a w hB hfr hdep => Step.plain rfl (dLoadEl q8_2 x8_2 (block_below hB (lt_of_heap n4_2__3) n4_2__3) rfl (hfr 4 (by kernel_rfl)) (fun _ h => h)),
    fun a w hB hfr hdep => Step.plain rfl (dLoadTab (Tab5.below hT3 hB).t4 rfl rfl rfl),
    fun a w hB hfr hdep => Step.plain rfl (Does.call 72 #[(a.eval (.tmp 16))] (by kernel_rfl) (cKnown w w (hdep 1 16 (by kernel_rfl)) rfl tab4_dig (by decide) tab4_val)),
    fun a w hB hfr hdep => Step.plain rfl (Does.call 77 #[(a.eval (.tmp 15)), (a.eval (.tmp 17))] (by kernel_rfl) (cMul w w w (hdep 0 15 (by kernel_rfl)) (hdep 2 17 (by kernel_rfl)))), trivial⟩
  intro u4 hb4
  simp only [List.take, List.drop, FinAll, Act.put, lA, lS, lZ]
  rintro v15_4 h15_4 _ rfl v17_4 h17_4 _ ⟨e18_4, q18_4, rfl, x18_4⟩
  have on4_2__3 := block_below hb4 (lt_of_heap n4_2__3) n4_2__3
  refine wpList_store_row rfl 58 (.tmp 4) (.tmp 18) rfl _ (elc e18_4) rfl rfl 58 _ on4_2__3 info26 rfl (elc_one _) ?_
  have n4_4 := setRow_heap _ _ _ (elc e18_4) _ _ on4_2__3
  have hO4 := setRow_below (hO3.trans (hb4.mono (hO3).size)) lwn4_2 (elc e18_4)
  have m1_1__4 := (setRow_other u4 g4_2 g1_1 (elc e18_4) n1).trans (block_below hb4 (lt_of_heap m1_1__3) m1_1__3)
  have m2_1__4 := (setRow_other u4 g4_2 g2_1 (elc e18_4) n2).trans (block_below hb4 (lt_of_heap m2_1__3) m2_1__3)
  have hT4 : Tab5 (u4.setRow g4_2 (elc e18_4)) := hT3.setRow hb4 (n5)
  generalize u4.setRow g4_2 (elc e18_4) = u4_s at hO4 m1_1__4 m2_1__4 n4_4 hT4 ⊢
  refine hKO _ _ ?_
  clear hKO KO
  refine wp_seq_k fun K5 hK5 => ?_
  refine wp_region_inv 6 (specs [El ((pw a e) * (ii)), El ((pw a e) * (ii)), El ((pw a e) * (ii)), El (((pw a e) * (ii)) * ((pw a e) * (ii))), El (a), Is (.bool (decide ((((pw a e) * (ii)) * ((pw a e) * (ii))) = (a))))]) (by kernel_rfl) (specs_stb ⟨El.stb _, El.stb _, El.stb _, El.stb _, El.stb _, Is.stb _, trivial⟩) (by kernel_rfl) ?_ ?_
  ·refine ⟨fun a w hB hfr hdep => Step.plain rfl (dLoadEl q18_4 x18_4 (block_below hB (lt_of_heap n4_4) n4_4) rfl (hfr 4 (by kernel_rfl)) (fun _ h => h)),
    fun a w hB hfr hdep => Step.plain rfl (dLoadEl q18_4 x18_4 (block_below hB (lt_of_heap n4_4) n4_4) rfl (hfr 4 (by kernel_rfl)) (fun _ h => h)),
    fun a w hB hfr hdep => Step.plain rfl (dLoadEl q18_4 x18_4 (block_below hB (lt_of_heap n4_4) n4_4) rfl (hfr 4 (by kernel_rfl)) (fun _ h => h)),
    fun a w hB hfr hdep => Step.plain rfl (Does.call 77 #[(a.eval (.tmp 20)), (a.eval (.tmp 21))] (by kernel_rfl) (cMul w w w (hdep 1 20 (by kernel_rfl)) (hdep 2 21 (by kernel_rfl)))),
    fun a w hB hfr hdep => Step.plain rfl (dLoadEl hd hx (block_below hB (lt_of_heap m1_1__4) m1_1__4) rfl (hfr 1 (by kernel_rfl)) (fun _ h => h)),
    fun a w hB hfr hdep => Step.plain rfl (Does.call 110 #[(a.eval (.tmp 22)), (a.eval (.tmp 23))] (by kernel_rfl) (cEq w w w (hdep 3 22 (by kernel_rfl)) (hdep 4 23 (by kernel_rfl)))), trivial⟩
  intro u5 hb5
  simp only [List.take, List.drop, FinAll, Act.put, lA, lS, lZ]
  rintro _ ⟨e19_5, q19_5, rfl, x19_5⟩ v20_5 h20_5 v21_5 h21_5 v22_5 h22_5 v23_5 h23_5 _ rfl
  have om2_1__4 := block_below hb5 (lt_of_heap m2_1__4) m2_1__4
  refine wpList_store_row rfl 58 (.tmp 2) (.tmp 19) rfl _ (elc e19_5) rfl rfl 58 _ om2_1__4 info26 rfl (elc_one _) ?_
  refine wpList_assign rfl rfl rfl ?_
  simp only [Act.put, Act.eval, Array.getD_eq_getD_getElem?, List.getElem?_toArray, List.getElem?_cons_succ, List.getElem?_cons_zero, Option.getD_some, lA, lS, lZ]
  have n2_5 := setRow_heap _ _ _ (elc e19_5) _ _ om2_1__4
  have hO5 := setRow_below (hO4.trans (hb5.mono (hO4).size)) lwm2_1 (elc e19_5)
  refine hK5 _ _ ?_
  clear hK5 K5
  refine wp_ret ?_
  refine bodyPost_ret (v := .tuple #[.agg (elc e19_5), .bool (decide (((pw a e) * (ii)) * ((pw a e) * (ii)) = (a)))]) ?_ rfl ⟨_, rfl, hO5, ⟨_, _, rfl, ⟨_, q19_5, rfl, x19_5⟩, rfl⟩⟩
  exact results_cell_tmp Tryz.results91 _ _ _ 58 _ (0, 0) _ _ rfl rfl n2_5 Tryz.underlying58 rfl (by first | exact info26 | exact info29 | exact info35 | (rw [(Pt4.cells (by assumption)).1]; exact info29) | (rw [cellsP_size (by assumption)]; exact info29))
theorem cXWith {y : Fe} {v : Value} {e : Nat} (he : valD tab3.reverse = e) (w w0 : World) (hT : Tab5 w) (h : El y v w0) : Ret 67 #[v] w (Tup2 (El (rootOf e (av y))) (Is (.bool (decide (rootOf e (av y) * rootOf e (av y) = av y))))) := by
 obtain ⟨d, hd, rfl, hx⟩ := h
 unfold Ret
 have hO0 : Below w.heap.size w w := Below.refl _ _
 go_enter Tryz.func67, Tryz.ntmps67
 refine wp_seq_k fun K1 hK1 => ?_
 refine wp_plain_inv 3 (specs [Box w.heap.size (elc d) 58, Box w.heap.size (elc zeroE) 58, Is (.bool false)]) (specs_stb ⟨Box.stb _ _ _, Box.stb _ _ _, Is.stb _, trivial⟩) (by kernel_rfl) ?_ ?_
 ·refine ⟨fun a w hB hfr hdep => Step.plain rfl (dBox27 hB.size rfl (hfr 0 (by kernel_rfl)) trivial),
   fun a w hB hfr hdep => Step.plain rfl (dAlloc27 hB.size rfl),
   fun a w hB hfr hdep => Step.plain rfl (dAssign (R := Is (.bool false)) rfl rfl), trivial⟩
 intro u1 hb1
 simp only [List.take, List.drop, FinAll, Act.put, lA, lS, lZ]
 rintro _ ⟨g1_1, rfl, l1_1, m1_1⟩ _ ⟨g2_1, rfl, l2_1, m2_1⟩ _ rfl
 have hO1 := (hO0).trans (hb1.mono (hO0).size)
 have lwm1_1 := Nat.le_trans (hO0).size l1_1
 have lwm2_1 := Nat.le_trans (hO0).size l2_1
 have hT1 := Tab5.below hT hb1
 refine hK1 _ _ ?_
 clear hK1 K1
 refine wp_seq_k fun K2 hK2 => ?_
 refine wp_region_inv2 (pi := 4) (pj := 5) (di := 4) (dj := 5) 6 (specs [El (1), El (y), El (y), El ((y) * (y)), Box u1.heap.size (elc zeroE) 58, Box u1.heap.size (elc zeroE) 58]) (by kernel_rfl) (specs_stb ⟨El.stb _, El.stb _, El.stb _, El.stb _, Box.stb _ _ _, Box.stb _ _ _, trivial⟩) (by kernel_rfl) ?_ (by decide) (by decide) (by decide) ?_ ?_ ?_ rfl rfl ?_
 ·refine ⟨fun a w hB hfr hdep => Step.plain rfl (Does.call 89 #[.int .i64 1] (by kernel_rfl) (cInt1 w)),
   fun a w hB hfr hdep => Step.plain rfl (dLoadEl hd hx (block_below hB (lt_of_heap m1_1) m1_1) rfl (hfr 1 (by kernel_rfl)) (fun _ h => h)),
   fun a w hB hfr hdep => Step.plain rfl (dLoadEl hd hx (block_below hB (lt_of_heap m1_1) m1_1) rfl (hfr 1 (by kernel_rfl)) (fun _ h => h)),
   fun a w hB hfr hdep => Step.plain rfl (Does.call 77 #[(a.eval (.tmp 8)), (a.eval (.tmp 9))] (by kernel_rfl) (cMul w w w (hdep 1 8 (by kernel_rfl)) (hdep 2 9 (by kernel_rfl)))),
   fun a w hB hfr hdep => Step.plain rfl (dAlloc27 hB.size rfl),
   fun a w hB hfr hdep => Step.plain rfl (dAlloc27 hB.size rfl), trivial⟩
 ·rintro i (rfl | rfl)
  ·exact ⟨_, _, rfl, fun ρ w => al27 rfl⟩
  ·exact ⟨_, _, rfl, fun ρ w => al27 rfl⟩
 ·rintro i (rfl | rfl) v w g ⟨g1, h1, h2, h3⟩ h4
  ·rw [h1] at h4; injection h4 with h5; injection h5 with h6; injection h6 with h7; exact h7 ▸ lt_of_heap h3
  ·rw [h1] at h4; injection h4 with h5; injection h5 with h6; injection h6 with h7; exact h7 ▸ lt_of_heap h3
 ·rintro i o (rfl | rfl) h
  ·injection h with h; rw [← h]
  ·injection h with h; rw [← h]
 intro u2 hb2
 simp only [List.take, List.drop, FinAll, Act.put, lA, lS, lZ]
 rintro _ ⟨e7_2, q7_2, rfl, x7_2⟩ v8_2 h8_2 v9_2 h9_2 _ ⟨e10_2, q10_2, rfl, x10_2⟩ _ ⟨g4_2, rfl, l4_2, m4_2⟩ _ ⟨g5_2, rfl, l5_2, m5_2⟩ nn2
 replace nn2 := nn2 _ _ rfl rfl
 refine wpList_store_row rfl 58 (.tmp 4) (.tmp 7) rfl _ (elc e7_2) rfl rfl 58 _ m4_2 info26 rfl (elc_one _) ?_
 have n4_2 := setRow_heap _ _ _ (elc e7_2) _ _ m4_2
 replace m5_2 := (setRow_other u2 g4_2 g5_2 (elc e7_2) (by first | exact nn2 | exact Ne.symm nn2 | omega)).trans m5_2
 replace hb2 := setRow_below hb2 l4_2 (elc e7_2)
 generalize hw2_1 : u2.setRow g4_2 (elc e7_2) = u2_1 at n4_2 hb2 m5_2 ⊢
 clear hw2_1 m4_2
 refine wpList_store_row rfl 58 (.tmp 5) (.tmp 10) rfl _ (elc e10_2) rfl rfl 58 _ m5_2 info26 rfl (elc_one _) ?_
 have n5_2 := setRow_heap _ _ _ (elc e10_2) _ _ m5_2
 replace n4_2 := (setRow_other u2_1 g5_2 g4_2 (elc e10_2) (by first | exact nn2 | exact Ne.symm nn2 | omega)).trans n4_2
 replace hb2 := setRow_below hb2 l5_2 (elc e10_2)
 generalize hw2_2 : u2_1.setRow g5_2 (elc e10_2) = u2_2 at n5_2 hb2 n4_2 ⊢
 clear hw2_2 m5_2
 have hO2 := (hO1).trans (hb2.mono (hO1).size)
 have m1_1__2 := block_below hb2 (lt_of_heap m1_1) m1_1
 have m2_1__2 := block_below hb2 (lt_of_heap m2_1) m2_1
 have lwn4_2 := Nat.le_trans (hO1).size l4_2
 have lwn5_2 := Nat.le_trans (hO1).size l5_2
 have hT2 := Tab5.below hT1 hb2
 refine hK2 _ _ ?_
 clear hK2 K2
 refine wp_seq_k fun K3 hK3 => ?_
 refine wp_region_inv 7 (specs [Is (.agg (ints .u8 tab2)), El (dd), El ((y) * (y)), El ((dd) * ((y) * (y))), El (1), El (((dd) * ((y) * (y))) + (1)), Box u2_2.heap.size (elc zeroE) 58]) (by kernel_rfl) (specs_stb ⟨Is.stb _, El.stb _, El.stb _, El.stb _, El.stb _, El.stb _, Box.stb _ _ _, trivial⟩) (by kernel_rfl) ?_ ?_
 ·refine ⟨fun a w hB hfr hdep => Step.plain rfl (dLoadTab (Tab5.below hT2 hB).t2 rfl rfl rfl),
   fun a w hB hfr hdep => Step.plain rfl (Does.call 72 #[(a.eval (.tmp 11))] (by kernel_rfl) (cKnown w w (hdep 0 11 (by kernel_rfl)) rfl tab2_dig (by decide) tab2_val)),
   fun a w hB hfr hdep => Step.plain rfl (dLoadEl q10_2 x10_2 (block_below hB (lt_of_heap n5_2) n5_2) rfl (hfr 5 (by kernel_rfl)) (fun _ h => h)),
   fun a w hB hfr hdep => Step.plain rfl (Does.call 77 #[(a.eval (.tmp 12)), (a.eval (.tmp 13))] (by kernel_rfl) (cMul w w w (hdep 1 12 (by kernel_rfl)) (hdep 2 13 (by kernel_rfl)))),
   fun a w hB hfr hdep => Step.plain rfl (dLoadEl q7_2 x7_2 (block_below hB (lt_of_heap n4_2) n4_2) rfl (hfr 4 (by kernel_rfl)) (fun _ h => h)),
   fun a w hB hfr hdep => Step.plain rfl (Does.call 90 #[(a.eval (.tmp 14)), (a.eval (.tmp 15))] (by kernel_rfl) (cAdd w w w (hdep 3 14 (by kernel_rfl)) (hdep 4 15 (by kernel_rfl)))),
   fun a w hB hfr hdep => Step.plain rfl (dAlloc27 hB.size rfl), trivial⟩
 intro u3 hb3
 simp only [List.take, List.drop, FinAll, Act.put, lA, lS, lZ]
 rintro _ rfl v12_3 h12_3 v13_3 h13_3 v14_3 h14_3 v15_3 h15_3 _ ⟨e16_3, q16_3, rfl, x16_3⟩ _ ⟨g6_3, rfl, l6_3, m6_3⟩
 refine wpList_store_row rfl 58 (.tmp 6) (.tmp 16) rfl _ (elc e16_3) rfl rfl 58 _ m6_3 info26 rfl (elc_one _) ?_
 have n6_3 := setRow_heap _ _ _ (elc e16_3) _ _ m6_3
 replace hb3 := setRow_below hb3 l6_3 (elc e16_3)
 generalize hw3_1 : u3.setRow g6_3 (elc e16_3) = u3_1 at n6_3 hb3  ⊢
 clear hw3_1 m6_3
 have hO3 := (hO2).trans (hb3.mono (hO2).size)
 have m1_1__3 := block_below hb3 (lt_of_heap m1_1__2) m1_1__2
 have m2_1__3 := block_below hb3 (lt_of_heap m2_1__2) m2_1__2
 have n4_2__3 := block_below hb3 (lt_of_heap n4_2) n4_2
 have n5_2__3 := block_below hb3 (lt_of_heap n5_2) n5_2
 have lwn6_3 := Nat.le_trans (hO2).size l6_3
 have hT3 := Tab5.below hT2 hb3
 refine hK3 _ _ ?_
 clear hK3 K3
 refine wp_seq_k fun K4 hK4 => ?_
 refine wp_region_inv 9 (specs [El ((y) * (y)), El (1), El (((y) * (y)) - (1)), El (((dd) * ((y) * (y))) + (1)), El (fin (((dd) * ((y) * (y))) + (1))), El ((((y) * (y)) - (1)) * (fin (((dd) * ((y) * (y))) + (1)))), Tup2 (El (rootOf e ((((y) * (y)) - (1)) * (fin (((dd) * ((y) * (y))) + (1)))))) (Is (.bool (decide (rootOf e ((((y) * (y)) - (1)) * (fin (((dd) * ((y) * (y))) + (1)))) * rootOf e ((((y) * (y)) - (1)) * (fin (((dd) * ((y) * (y))) + (1)))) = (((y) * (y)) - (1)) * (fin (((dd) * ((y) * (y))) + (1))))))), El (rootOf e ((((y) * (y)) - (1)) * (fin (((dd) * ((y) * (y))) + (1))))), Is (.bool (decide (rootOf e ((((y) * (y)) - (1)) * (fin (((dd) * ((y) * (y))) + (1)))) * rootOf e ((((y) * (y)) - (1)) * (fin (((dd) * ((y) * (y))) + (1)))) = (((y) * (y)) - (1)) * (fin (((dd) * ((y) * (y))) + (1))))))]) (by kernel_rfl) (specs_stb ⟨El.stb _, El.stb _, El.stb _, El.stb _, El.stb _, El.stb _, Tup2.stb (El.stb _) (Is.stb _), El.stb _, Is.stb _, trivial⟩) (by kernel_rfl) ?_ ?_
 ·refine ⟨fun a w hB hfr hdep => Step.plain rfl (dLoadEl q10_2 x10_2 (block_below hB (lt_of_heap n5_2__3) n5_2__3) rfl (hfr 5 (by kernel_rfl)) (fun _ h => h)),
   fun a w hB hfr hdep => Step.plain rfl (dLoadEl q7_2 x7_2 (block_below hB (lt_of_heap n4_2__3) n4_2__3) rfl (hfr 4 (by kernel_rfl)) (fun _ h => h)),
   fun a w hB hfr hdep => Step.plain rfl (Does.call 92 #[(a.eval (.tmp 17)), (a.eval (.tmp 18))] (by kernel_rfl) (cSub w w w (hdep 0 17 (by kernel_rfl)) (hdep 1 18 (by kernel_rfl)))),
   fun a w hB hfr hdep => Step.plain rfl (dLoadEl q16_3 x16_3 (block_below hB (lt_of_heap n6_3) n6_3) rfl (hfr 6 (by kernel_rfl)) (fun _ h => h)),
   fun a w hB hfr hdep => Step.plain rfl (Does.call 76 #[(a.eval (.tmp 20))] (by kernel_rfl) (cInv w w (hdep 3 20 (by kernel_rfl)))),
   fun a w hB hfr hdep => Step.plain rfl (Does.call 77 #[(a.eval (.tmp 19)), (a.eval (.tmp 21))] (by kernel_rfl) (cMul w w w (hdep 2 19 (by kernel_rfl)) (hdep 4 21 (by kernel_rfl)))),
   fun a w hB hfr hdep => Step.plain rfl (Does.call 91 #[(a.eval (.tmp 22))] (by kernel_rfl) (cRoot he w w (Tab5.below hT3 hB) (hdep 5 22 (by kernel_rfl)))),
   fun a w hB hfr hdep => Step.plain rfl (dExt0 rfl (hdep 6 23 (by kernel_rfl))),
   fun a w hB hfr hdep => Step.plain rfl (dExt1 rfl (hdep 6 23 (by kernel_rfl))), trivial⟩
 intro u4 hb4
 simp only [List.take, List.drop, FinAll, Act.put, lA, lS, lZ]
 rintro v17_4 h17_4 v18_4 h18_4 v19_4 h19_4 v20_4 h20_4 v21_4 h21_4 v22_4 h22_4 v23_4 h23_4 _ ⟨e24_4, q24_4, rfl, x24_4⟩ _ rfl
 have om2_1__3 := block_below hb4 (lt_of_heap m2_1__3) m2_1__3
 refine wpList_store_row rfl 58 (.tmp 2) (.tmp 24) rfl _ (elc e24_4) rfl rfl 58 _ om2_1__3 info26 rfl (elc_one _) ?_
 refine wpList_assign rfl rfl rfl ?_
 simp only [Act.put, Act.eval, Array.getD_eq_getD_getElem?, List.getElem?_toArray, List.getElem?_cons_succ, List.getElem?_cons_zero, Option.getD_some, lA, lS, lZ]
 have n2_4 := setRow_heap _ _ _ (elc e24_4) _ _ om2_1__3
 have hO4 := setRow_below (hO3.trans (hb4.mono (hO3).size)) lwm2_1 (elc e24_4)
 refine hK4 _ _ ?_
 clear hK4 K4
 refine wp_ret ?_
 refine bodyPost_ret (v := .tuple #[.agg (elc e24_4), _]) ?_ rfl ⟨_, rfl, hO4, ⟨_, _, rfl, ⟨_, q24_4, rfl, x24_4⟩, rfl⟩⟩
 exact results_cell_tmp Tryz.results67 _ _ _ 58 _ (0, 0) _ _ rfl rfl n2_4 Tryz.underlying58 rfl (by first | exact info26 | exact info29 | exact info35 | (rw [(Pt4.cells (by assumption)).1]; exact info29) | (rw [cellsP_size (by assumption)]; exact info29))
end Go.Proofs.YtabgihjffjlfiaaGreatDoor
set_option linter.unusedVariables false
namespace Go.Proofs.YtabgihjffjlfiaaGreatDoor
open Go.RowKit Go.Sort Go.BigFrame
set_option maxRecDepth 100000
set_option maxHeartbeats 2000000
def OwnC (lo : Nat) (l : List Nat) (v : Value) (w : World) : Prop :=
 ∃ g cap cur, v = .slice (some ⟨g, 0, none⟩) l.length cap ∧ lo ≤ g ∧ w.heap[g]? = some (.cells cur 5 (0, 0)) ∧ l.length ≤ cap ∧ cap ≤ 9223372036854775807 ∧ ∀ i, i < l.length → cur[i]? = some (.int .u8 ((l.getD i 0 : Nat) : Int))
theorem OwnC.stb (lo : Nat) (l : List Nat) : Stb (OwnC lo l) := fun _ _ _ hb ⟨g, c, cur, h1, h2, h3, h4⟩ => ⟨g, c, cur, h1, h2, block_below hb (lt_of_heap h3) h3, h4⟩
theorem bytesAt_cur {w : World} {g : Nat} {cur : Array Value} {t : Nat} {fr : Nat × Nat} {l : List Nat} (h : w.heap[g]? = some (.cells cur t fr)) (hc : ∀ i, i < l.length → cur[i]? = some (.int .u8 ((l.getD i 0 : Nat) : Int))) : BytesAt w g 0 l := fun i hi => by
 rw [Nat.zero_add, cell_of_row w g i _ t _ h]; exact hc i hi
theorem OwnC.bts {lo : Nat} {l : List Nat} {v : Value} {w : World} (h : OwnC lo l v w) : Bts l v w := by
 obtain ⟨g, c, cur, h1, h2, h3, h4, h5, h6⟩ := h
 exact ⟨_, _, h1, h4, h5, fun _ => ⟨g, 0, rfl, bytesAt_cur h3 h6⟩⟩
theorem own_C {w : World} {lo n : Nat} {v : Value} {l : List Nat} (hn : l.length = n) (h0 : 0 < n) (h : w.ownsRow lo 5 1 v n (bv l)) : OwnC lo l v w := by
 obtain ⟨_, h | ⟨g, cap, cur, h1, h2, h3, h4, h5, h6, h7⟩⟩ := h
 ·omega
 ·subst hn
  refine ⟨g, cap, cur, h1, h2, h3, h4, by unfold maxLen at h5; omega, fun i hi => ?_⟩
  have := congrArg (fun x : List Value => x[i]?) h7
  rw [List.getElem?_take_of_lt (by omega), Array.getElem?_toList] at this
  rw [this]
  simp [bv, hi]
theorem OwnC.lo {lo lo' : Nat} {l : List Nat} {v : Value} {w : World} (h : OwnC lo l v w) (hl : lo' ≤ lo) : OwnC lo' l v w := by
 obtain ⟨g, c, cur, h1, h2, h3⟩ := h
 exact ⟨g, c, cur, h1, by omega, h3⟩
theorem Own.C {lo : Nat} {l : List Nat} {v : Value} {w : World} (h : Own lo l v w) (hl : l.length ≤ 1000) : OwnC lo l v w := by
 obtain ⟨g, h1, h2, h3⟩ := h
 exact ⟨g, _, _, h1, h2, h3, Nat.le_refl _, by omega, fun i hi => ints_get _ _ i hi⟩
theorem cur_set {w : World} {g : Nat} {cur : Array Value} {l : List Nat} (h : w.heap[g]? = some (.cells cur 5 (0, 0))) (hc : ∀ i, i < l.length → cur[i]? = some (.int .u8 ((l.getD i 0 : Nat) : Int))) (k x : Nat) (hk : k < l.length) :
  (w.setCell ⟨g, k, none⟩ (.int .u8 (x : Int))).heap[g]? = some (.cells (cur.setIfInBounds k (.int .u8 (x : Int))) 5 (0, 0)) ∧ ∀ i, i < (l.set k x).length → (cur.setIfInBounds k (.int .u8 (x : Int)))[i]? = some (.int .u8 (((l.set k x).getD i 0 : Nat) : Int)) := by
 refine ⟨heap_setCell_same w g k _ 5 _ h, fun i hi => ?_⟩
 rw [List.length_set] at hi
 have hks : k < cur.size := by
  have := hc k hk
  exact (Array.getElem?_eq_some_iff.1 this).1
 rw [getD_set2 _ _ _ _ hk]
 by_cases e : i = k
 ·subst e
  rw [Array.getElem?_setIfInBounds_self_of_lt hks, if_pos rfl]
 ·rw [Array.getElem?_setIfInBounds_ne (Ne.symm e), if_neg e]; exact hc i hi
theorem news_view {w : World} {p : Addr} {bs : List Nat} (h : View w (some p) bs) : ∀ (j : Nat) u, (bv bs)[j]? = some u → w.cell? (p.add j) = some u := by
 intro j u hj
 have hj' : j < bs.length := by
  by_cases h : j < bs.length
  ·exact h
  ·rw [List.getElem?_eq_none (by simp [bv]; omega)] at hj; cases hj
 obtain ⟨b, off, e, hc⟩ := h (by omega)
 injection e with e
 rw [e, Addr.add_mid, hc j hj', ← hj]
 simp [bv, hj']
theorem bv_one {l : List Nat} : ∀ u ∈ bv l, u.oneCell' = true := fun u hu => by
 obtain ⟨x, _, rfl⟩ := List.mem_map.1 hu; rfl
theorem cClone {v : Value} {l : List Nat} (w : World) (h : Bts l v w) (h0 : 0 < l.length) (hl : l.length ≤ 1000) : Ret 65 #[v] w (OwnC w.heap.size l) := by
 obtain ⟨a, cap, rfl, hcap, hcap2, hv⟩ := h
 obtain ⟨i0, hi, hz0, hz1, hz2⟩ := info5
 obtain ⟨gx, off, rfl, hc⟩ := id (hv h0)
 obtain ⟨len, hlen⟩ : ∃ n, n = l.length := ⟨_, rfl⟩
 have HLEN : Hid (l.length = len) := hlen.symm
 rw [← hlen] at hcap h0 hl ⊢
 clear hlen hc
 have hown : (w.alloc (.cells #[] 5)).ownsRow w.heap.size 5 1 (.slice (some ⟨w.heap.size, 0, none⟩) 0 0) 0 [] := ⟨by simp, .inr ⟨w.heap.size, 0, #[], rfl, Nat.le_refl _, heap_alloc_new _ _, Nat.le_refl _, by decide, rfl, rfl⟩⟩
 have hv2 := news_view (hv.below (below1 w (.cells #[] 5)))
 have hm1 : 0 + len ≤ maxLen := by unfold maxLen; omega
 have hm2 : (0 + len) * 1 ≤ 140737488355328 := by omega
 have hbl : (bv l).length = len * 1 := by simp [bv, HLEN.out]
 have hm3 : w.heap.size ≤ (w.alloc (.cells #[] 5)).heap.size := by simp
 have hnil : ∀ w1, (binOp .eql 22 (.slice (some ⟨gx, off, none⟩) len cap) (.slice none 0 0)).run Tryz.prog w1 = .ok (.bool false) w1 := fun w1 => by kernel_rfl
 unfold Ret
 go_enter Tryz.func65, Tryz.ntmps65
 go_wp2_with (at_builtin; refine wpList_append_own _ rfl (.tmp 5) (.tmp 6) 22 rfl w.heap.size 5 i0 (.int .u8 0) 1 1 Tryz.underlying22 hi hz0 hz1 hz2 rfl (by decide) (.slice (some ⟨w.heap.size, 0, none⟩) 0 0) 0 [] rfl hown ⟨gx, off, none⟩ len cap (bv l) rfl hbl hv2 bv_one hm1 hm2 hm3 ?_; intro v2 w2 hown2 hgrow2 _)
 rw [Nat.zero_add, List.nil_append] at hown2
 have hB2 : Below w.heap.size w w2 := ((Below.refl _ _).alloc (Nat.le_refl _) _).grown hgrow2 hm3 (fun j hj => (hown.lt j hj).1)
 have hC := own_C HLEN.out (by omega) hown2
 clear hgrow2 hown2 hv2 hown hm1 hm2 hm3 hbl
 go_wp2
 go_ret
 exact ⟨_, rfl, hB2, hC⟩
end Go.Proofs.YtabgihjffjlfiaaGreatDoor
set_option linter.unusedVariables false
namespace Go.Proofs.YtabgihjffjlfiaaGreatDoor
open Go.RowKit Go.Sort Go.BigFrame
set_option maxRecDepth 100000
set_option maxHeartbeats 2000000
section
variable {ρ : Operand → Value} {o : Oper} {x y z t : Operand} {w : World}
theorem bu29z (ho : o.op = .build 60 #[]) : (execOp ρ o).run Tryz.prog w = .ok (.value (.agg (ptc zeroE zeroE zeroE zeroE))) w := by
 simp only [execOp, ho]
 kernel_rfl
theorem run_binO {op : BinOp} {t t2 : TypeId} {a b v : Value} (ho : o.op = .binOp op t x y t2) (hx : ρ x = a) (hy : ρ y = b) (hr : Sem.run Tryz.prog (do eqGuard op t x y a b; binOp op t a b) w = .ok v w) : (execOp ρ o).run Tryz.prog w = .ok (.value v) w := by
 simp only [execOp, ho, hx, hy]
 rw [Sem.run_bind, hr]
 rfl
theorem run_neqS {s1 s2 : Nat} {b : Bool} (ho : o.op = .binOp .neq 4 (.tmp s1) (.tmp s2) 4) (hx : ρ (.tmp s1) = .bool b) (hy : ρ (.tmp s2) = .bool b) : (execOp ρ o).run Tryz.prog w = .ok (.value (.bool false)) w :=
 run_binO ho hx hy (by cases b <;> kernel_rfl)
theorem run_neqD {s1 s2 : Nat} {b : Bool} (ho : o.op = .binOp .neq 4 (.tmp s1) (.tmp s2) 4) (hx : ρ (.tmp s1) = .bool (!b)) (hy : ρ (.tmp s2) = .bool b) : (execOp ρ o).run Tryz.prog w = .ok (.value (.bool true)) w :=
 run_binO ho hx hy (by cases b <;> kernel_rfl)
end
theorem and128 (x : Nat) (h : x < 256) : (bits .and .u8 (x : Int) 128 != 0) = decide (128 ≤ x) := by
 have : ∀ y < 256, (bits .and .u8 ((y : Nat) : Int) 128 != 0) = decide (128 ≤ y) := by decide
 exact this x h
theorem andNot128 (x : Nat) (h : x < 256) : bits .andNot .u8 (x : Int) 128 = ((x % 128 : Nat) : Int) := by
 have : ∀ y < 256, bits .andNot .u8 ((y : Nat) : Int) 128 = ((y % 128 : Nat) : Int) := by decide
 exact this x h
theorem high_bit {l : List Nat} (hl : l.length = 32) (hd : Dig l) : valD l / t255 = l.getD 31 0 / 128 ∧ valD (l.set 31 (l.getD 31 0 % 128)) = valD l % t255 ∧ valD l < 2 * t255 := by
 have h1 := valD_take_succ l 31
 rw [List.take_of_length_le (by omega)] at h1
 have h2 := valD_take_lt hd 31
 have h3 := hd 31
 have h4 := valD_set l 31 (l.getD 31 0 % 128) (by omega)
 have h5 := p31
 obtain ⟨q, hq⟩ : ∃ q, q = 256 ^ 31 := ⟨_, rfl⟩
 rw [← hq] at h1 h2 h4 h5
 obtain ⟨c, hc⟩ : ∃ c, c = l.getD 31 0 := ⟨_, rfl⟩
 rw [← hc] at h1 h3 h4 ⊢
 obtain ⟨L, hL⟩ : ∃ L, L = valD (l.take 31) := ⟨_, rfl⟩
 rw [← hL] at h1 h2
 have e1 : c = 128 * (c / 128) + c % 128 := by omega
 have e2 : q * c = t255 * (c / 128) + q * (c % 128) := by
  rw [← h5, Nat.mul_assoc, ← Nat.mul_add, ← e1]
 have e3 : q * (c % 128) ≤ q * 127 := Nat.mul_le_mul_left _ (by omega)
 have e4 : L + q * (c % 128) < t255 := by omega
 have e5 : valD l = (L + q * (c % 128)) + t255 * (c / 128) := by omega
 have ht : 0 < t255 := by decide
 refine ⟨?_, ?_, ?_⟩
 ·rw [e5, Nat.add_mul_div_left _ _ ht, Nat.div_eq_of_lt e4, Nat.zero_add]
 ·rw [e5, Nat.add_mul_mod_self_left, Nat.mod_eq_of_lt e4]; omega
 ·rw [e5]
  have : t255 * (c / 128) ≤ t255 * 1 := Nat.mul_le_mul_left _ (by omega)
  omega
theorem root_sq {a : Fe} {e : Nat} (he : 8 * e = pp + 3) (h : IsSq a) : rootOf e a * rootOf e a = a := by
 unfold rootOf
 rcases root_or h he with h1 | h1
 ·rw [if_pos h1]; exact h1
 ·by_cases h2 : pw a e * pw a e = a
  ·rw [if_pos h2]; exact h2
  ·rw [if_neg h2]; exact h1
theorem zsub (z : Fe) : 0 - z = -z := by grobner
theorem pt_root {p : Pt} {e n : Nat} (he : 8 * e = pp + 3) (hn : p.enc = n) : n % t255 < pp ∧ rootOf e (av (fe (n % t255))) * rootOf e (av (fe (n % t255))) = av (fe (n % t255)) ∧ p.y = fe (n % t255) ∧
  (((rootOf e (av (fe (n % t255)))).val % 2 = n / t255 ∧ p.x = rootOf e (av (fe (n % t255)))) ∨ ((rootOf e (av (fe (n % t255)))).val % 2 ≠ n / t255 ∧ p.x = 0 - rootOf e (av (fe (n % t255))) ∧ (0 - rootOf e (av (fe (n % t255)))).val % 2 = n / t255)) := by
 have hy : n % t255 = p.y.val := by rw [← hn, p.enc_y]
 have ho : n / t255 = p.x.val % 2 := by rw [← hn, p.enc_odd]
 rw [hy, ho, fe_of]
 have hs := p.sq
 have hr := root_sq (a := av p.y) he ⟨p.x, hs.symm⟩
 refine ⟨p.y.isLt, hr, rfl, ?_⟩
 obtain ⟨r, hre⟩ : ∃ r, r = rootOf e (av p.y) := ⟨_, rfl⟩
 rw [← hre] at hr ⊢
 rw [← hr] at hs
 by_cases hp : r.val % 2 = p.x.val % 2
 ·left
  refine ⟨hp, ?_⟩
  rcases sq_eq hs with h | h
  ·exact h
  ·by_cases h0 : r = 0
   ·rw [h, h0]; grobner
   ·have := neg_par h0
    rw [← h] at this
    omega
 ·right
  have hx : p.x = -r := by
   rcases sq_eq hs with h | h
   ·rw [h] at hp; exact absurd rfl hp
   ·exact h
  rw [zsub, ← hx]
  exact ⟨hp, rfl, rfl⟩
theorem no_root {e n : Nat} (he : 8 * e = pp + 3) (hn2 : n < 2 * t255) (hno : ¬ ∃ p : Pt, p.enc = n) (h1 : n % t255 < pp) (h2 : rootOf e (av (fe (n % t255))) * rootOf e (av (fe (n % t255))) = av (fe (n % t255))) :
  (rootOf e (av (fe (n % t255)))).val % 2 ≠ n / t255 ∧ (0 - rootOf e (av (fe (n % t255)))).val % 2 ≠ n / t255 := by
 obtain ⟨r, hre⟩ : ∃ r, r = rootOf e (av (fe (n % t255))) := ⟨_, rfl⟩
 rw [← hre] at h2 ⊢
 have ht : 0 < t255 := by decide
 have key : ∀ x : Fe, x * x = av (fe (n % t255)) → x.val % 2 ≠ n / t255 := fun x hx hp => by
  refine hno ⟨⟨x, fe (n % t255), (on_iff _ _).2 hx⟩, ?_⟩
  unfold Pt.enc
  show (fe (n % t255)).val + t255 * (x.val % 2) = n
  rw [hp, fe_val, Nat.mod_eq_of_lt h1, Nat.mod_add_div]
 exact ⟨key r h2, key (0 - r) (by rw [← h2]; grobner)⟩
theorem cOddB {x : Fe} {b : Bool} (hb : decide (x.val % 2 = 1) = b) {v1 : Value} (w w0 : World) (h1 : El x v1 w0) : Ret 68 #[v1] w (Is (.bool b)) := by
 rw [← hb]; exact cOdd w w0 h1
theorem cXWithT {y r : Fe} {v : Value} {e : Nat} (he : valD tab3.reverse = e) (hr : rootOf e (av y) = r) (hs : r * r = av y) (w w0 : World) (hT : Tab5 w) (h : El y v w0) : Ret 67 #[v] w (Tup2 (El r) (Is (.bool true))) := by
 have := cXWith he w w0 hT h
 rw [hr, decide_eq_true hs] at this
 exact this
theorem cXWithF {y r : Fe} {v : Value} {e : Nat} (he : valD tab3.reverse = e) (hr : rootOf e (av y) = r) (hs : ¬ r * r = av y) (w w0 : World) (hT : Tab5 w) (h : El y v w0) : Ret 67 #[v] w (Tup2 (El r) (Is (.bool false))) := by
 have := cXWith he w w0 hT h
 rw [hr, decide_eq_false hs] at this
 exact this
theorem Tab5.setCell {w : World} (h : Tab5 w) {g k : Nat} {v : Value} (hg : 6 < g) : Tab5 (w.setCell ⟨g, k, none⟩ v) := by
 have o : ∀ (j : Nat) (l : List Nat), j < 6 + 1 → BytesAt w j 0 l → BytesAt (w.setCell ⟨g, k, none⟩ v) j 0 l := fun j l hj hl i hi => by
  rw [World.cell?_setCell_far w ⟨g, k, none⟩ ⟨j, 0 + i, none⟩ v (by show g ≠ j; omega)]; exact hl i hi
 exact ⟨⟨o 0 _ (by omega) h.t0, o 1 _ (by omega) h.t1, o 2 _ (by omega) h.t2⟩, o 5 _ (by omega) h.t3, o 6 _ (by omega) h.t4⟩
theorem ownCLo {f : FuncId} {args : Array Value} {w : World} {l : List Nat} {lo : Nat} (hlo : lo ≤ w.heap.size) (h : Ret f args w (OwnC w.heap.size l)) : Ret f args w (OwnC lo l) :=
 h.mono fun e w' ⟨v, h1, h2, h3⟩ => ⟨v, h1, h2, h3.lo hlo⟩
theorem cloneIs {v x : Value} {l : List Nat} (w : World) (hv : v = x) (h : Bts l x w) (hl : l.length = 32) : Ret 65 #[v] w (OwnC w.heap.size l) := by
 subst hv; exact cClone w h (by omega) (by omega)
theorem cReadY {v : Value} {l : List Nat} {y : Fe} (hy : fe (valD l) = y) (w : World) (h : Bts l v w) (hl : l.length = 32) (hd : Dig l) (hlt : valD l < pp) : Ret 66 #[v] w (Tup2 (El y) (Is (.int .i64 0))) := by
 rw [← hy]; exact cRead w h hl hd hlt
theorem readCA (w : World) (hT : Tab5 w) {l : List Nat} {gx off cap c d : Nat} {bb : Bool} {e : Nat} (he : valD tab3.reverse = e) (hb : Bts l (.slice (some ⟨gx, off, none⟩) 32 cap) w) (hl : l.length = 32) (hcc : Hid (c = l.getD 31 0)) (hc256 : c < 256) (han : bits .andNot .u8 (c : Int) 128 = (d : Int)) (hbb : decide (128 ≤ c) = bb) (hl1 : (l.set 31 d).length = 32) (hd1 : Dig (l.set 31 d))
  (hgx : gx < w.heap.size) (hca : w.cell? ⟨gx, off + 31, none⟩ = some (.int .u8 (c : Int))) (hA : ¬ valD (l.set 31 d) < pp) :
  Ret 30 #[.slice (some ⟨gx, off, none⟩) 32 cap] w (Tup2 (Is (.agg (ptc zeroE zeroE zeroE zeroE))) (Is (.int .i64 2))) := by
 unfold Ret
 have hand := and128 c hc256
 rw [hbb] at hand
 clear hbb
 have h32 : ((32 : Int) != 32) = false := rfl
 have hO0 : Below w.heap.size w w := Below.refl _ _
 go_enter Tryz.func30, Tryz.ntmps30
 refine wp_seq_k fun K1 hK1 => ?_
 refine wp_plain_inv 2 (specs [Box w.heap.size (ptc zeroE zeroE zeroE zeroE) 60, Is (.int .i64 0)]) (specs_stb ⟨Box.stb _ _ _, Is.stb _, trivial⟩) (by kernel_rfl) ?_ ?_
 ·refine ⟨fun a w hB hfr hdep => Step.plain rfl (dAlloc29 hB.size rfl),
   fun a w hB hfr hdep => Step.plain rfl (dAssign (R := Is (.int .i64 0)) rfl rfl), trivial⟩
 intro u1 hb1
 simp only [List.take, List.drop, FinAll, Act.put, lA, lS, lZ]
 rintro _ ⟨g2_1, rfl, l2_1, m2_1⟩ _ rfl
 have hO1 := (hO0).trans (hb1.mono (hO0).size)
 have lwm2_1 := Nat.le_trans (hO0).size l2_1
 have hT1 := Tab5.below hT hb1
 refine hK1 _ _ ?_
 clear hK1 K1
 refine wp_seq_k fun KA hKA => ?_
 have HKA : Hid _ := hKA
 clear hKA
 go_wp2
 refine HKA.out _ _ ?_
 clear HKA KA
 refine wp_seq_k fun K2 hK2 => ?_
 refine wp_plain_inv 3 (specs [Is (.slice (some ⟨gx, off, none⟩) 32 cap), OwnC u1.heap.size l, OwnC u1.heap.size l]) (specs_stb ⟨Is.stb _, OwnC.stb _ _, OwnC.stb _ _, trivial⟩) (by kernel_rfl) ?_ ?_
 ·refine ⟨fun a w hB hfr hdep => Step.plain rfl (dMove (R := Is (.slice (some ⟨gx, off, none⟩) 32 cap)) rfl (hfr 0 (by kernel_rfl))),
   fun a w hB hfr hdep => Step.plain rfl (Does.call 65 #[(a.eval (.tmp 14))] (by kernel_rfl) (ownCLo hB.size (cloneIs w (hdep 0 14 (by kernel_rfl)) (Bts.stb _ _ _ _ hB (Bts.stb _ _ _ _ hO1 hb)) hl))),
   fun a w hB hfr hdep => Step.plain rfl (dAssign (R := OwnC u1.heap.size l) rfl (hdep 1 15 (by kernel_rfl))), trivial⟩
 intro u2 hb2
 simp only [List.take, List.drop, FinAll, Act.put, lA, lS, lZ]
 rintro _ rfl v15_2 h15_2 v4_2 h4_2
 have hO2 := (hO1).trans (hb2.mono (hO1).size)
 have m2_1__2 := block_below hb2 (lt_of_heap m2_1) m2_1
 have hT2 := Tab5.below hT1 hb2
 refine hK2 _ _ ?_
 clear hK2 K2
 obtain ⟨g4, cap4, cur4, hv4, hl4, hrow4, hc4, hc4', hcur⟩ := h4_2
 rw [hl] at hv4 hcur
 subst hv4
 have c31 := cell_of_row _ g4 31 _ _ _ hrow4
 rw [hcur 31 (by omega), ← hcc.out] at c31
 have f31 := frozen_of_row _ g4 31 _ _ hrow4
 have hst := cur_set hrow4 (by rw [hl]; exact hcur) 31 d (by omega)
 have hOs := (hO2).setCell (p := ⟨g4, 31, none⟩) (by show _ ≤ g4; have := hO1.size; omega) (.int .u8 (d : Int))
 have nz : g2_1 ≠ g4 := by have := lt_of_heap m2_1; omega
 have hz2 := (heap_setCell_other u2 ⟨g4, 31, none⟩ g2_1 (.int .u8 (d : Int)) nz).trans m2_1__2
 have hTs : Tab5 (u2.setCell ⟨g4, 31, none⟩ (.int .u8 (d : Int))) := hT2.setCell (by have := hT.size; have := hO1.size; show 6 < g4; omega)
 have HOS : Hid _ := hOs
 have HZ2 : Hid _ := hz2
 have HTS : Hid _ := hTs
 have HST : Hid _ := hst
 clear hOs hz2 hTs hst
 refine wp_seq_k fun KB hKB => ?_
 have HKB : Hid _ := hKB
 clear hKB
 go_wp2
 refine HKB.out _ _ ?_
 clear HKB KB
 have hO := HOS.out
 have hz := HZ2.out
 have hT9 := HTS.out
 have hb9 : Bts (l.set 31 d) (.slice (some ⟨g4, 0, none⟩) 32 cap4) (u2.setCell ⟨g4, 31, none⟩ (.int .u8 (d : Int))) := ⟨_, _, by rw [hl1], by rw [hl1]; rw [hl] at hc4; exact hc4, hc4', fun _ => ⟨g4, 0, rfl, bytesAt_cur HST.out.1 HST.out.2⟩⟩
 clear HOS HZ2 HTS HST c31 f31
 generalize u2.setCell ⟨g4, 31, none⟩ (.int .u8 (d : Int)) = uu at hO hz hT9 hb9 ⊢
 refine wp_seq_k fun K3 hK3 => ?_
 refine wp_plain_inv 6 (specs [Bts (l.set 31 d), Tup2 (El (0)) (Is (.int .i64 2)), Tup2 (El (0)) (Is (.int .i64 2)), El (0), Is (.int .i64 2), Box uu.heap.size (elc zeroE) 58]) (specs_stb ⟨Bts.stb _, Tup2.stb (El.stb _) (Is.stb _), Tup2.stb (El.stb _) (Is.stb _), El.stb _, Is.stb _, Box.stb _ _ _, trivial⟩) (by kernel_rfl) ?_ ?_
 ·refine ⟨fun a w hB hfr hdep => Step.plain rfl (dMove (R := Bts (l.set 31 d)) rfl (use (hfr 4 (by kernel_rfl)) ((Bts.stb _) _ _ _ hB hb9))),
   fun a w hB hfr hdep => Step.plain rfl (Does.call 66 #[(a.eval (.tmp 22))] (by kernel_rfl) (cReadNot w (hdep 0 22 (by kernel_rfl)) hl1 hd1 hA)),
   fun a w hB hfr hdep => Step.plain rfl (dMove (R := Tup2 (El (0)) (Is (.int .i64 2))) rfl (hdep 1 23 (by kernel_rfl))),
   fun a w hB hfr hdep => Step.plain rfl (dExt0 rfl (hdep 2 21 (by kernel_rfl))),
   fun a w hB hfr hdep => Step.plain rfl (dExt1 rfl (hdep 2 21 (by kernel_rfl))),
   fun a w hB hfr hdep => Step.plain rfl (dAlloc27 hB.size rfl), trivial⟩
 intro u3 hb3
 simp only [List.take, List.drop, FinAll, Act.put, lA, lS, lZ]
 rintro v22_3 h22_3 v23_3 h23_3 v21_3 h21_3 _ ⟨e24_3, q24_3, rfl, x24_3⟩ _ rfl _ ⟨g5_3, rfl, l5_3, m5_3⟩
 refine wpList_store_row rfl 58 (.tmp 5) (.tmp 24) rfl _ (elc e24_3) rfl rfl 58 _ m5_3 info26 rfl (elc_one _) ?_
 have n5_3 := setRow_heap _ _ _ (elc e24_3) _ _ m5_3
 replace hb3 := setRow_below hb3 l5_3 (elc e24_3)
 generalize hw3_1 : u3.setRow g5_3 (elc e24_3) = u3_1 at n5_3 hb3  ⊢
 clear hw3_1 m5_3
 refine wpList_assign rfl rfl rfl ?_
 simp only [Act.put, Act.eval, Array.getD_eq_getD_getElem?, List.getElem?_toArray, List.getElem?_cons_succ, List.getElem?_cons_zero, Option.getD_some, lA, lS, lZ]
 have hO3 := (hO).trans (hb3.mono (hO).size)
 have hz__3 := block_below hb3 (lt_of_heap hz) hz
 have lwn5_3 := Nat.le_trans (hO).size l5_3
 have hT3 := Tab5.below hT9 hb3
 refine hK3 _ _ ?_
 clear hK3 K3
 refine wp_seq_k fun KO6 hKO6 => ?_
 refine wp_seq_k fun K4 hK4 => ?_
 refine wp_plain_inv 2 (specs [Is (.int .i64 2), Is (.bool true)]) (specs_stb ⟨Is.stb _, Is.stb _, trivial⟩) (by kernel_rfl) ?_ ?_
 ·refine ⟨fun a w hB hfr hdep => Step.plain rfl (dMove (R := Is (.int .i64 2)) rfl (hfr 6 (by kernel_rfl))),
   fun a w hB hfr hdep => Step.plain rfl (Does.run _ (run_binO rfl (hdep 0 26 (by kernel_rfl)) rfl (by kernel_rfl)) rfl), trivial⟩
 intro u4 hb4
 simp only [List.take, List.drop, FinAll, Act.put, lA, lS, lZ]
 rintro _ rfl _ rfl
 have hO4 := (hO3).trans (hb4.mono (hO3).size)
 have hz__4 := block_below hb4 (lt_of_heap hz__3) hz__3
 have n5_3__4 := block_below hb4 (lt_of_heap n5_3) n5_3
 have hT4 := Tab5.below hT3 hb4
 refine hK4 _ _ ?_
 clear hK4 K4
 refine wp_cond_true rfl ?_
 refine wp_seq_k fun K5 hK5 => ?_
 refine wp_plain_inv 1 (specs [Is (.agg (ptc zeroE zeroE zeroE zeroE))]) (specs_stb ⟨Is.stb _, trivial⟩) (by kernel_rfl) ?_ ?_
 ·refine ⟨fun a w hB hfr hdep => Step.plain rfl (Does.run _ (bu29z rfl) rfl), trivial⟩
 intro u5 hb5
 simp only [List.take, List.drop, FinAll, Act.put, lA, lS, lZ]
 rintro _ rfl
 have ohz__4 := block_below hb5 (lt_of_heap hz__4) hz__4
 refine wpList_store_row rfl 60 (.tmp 2) (.tmp 28) rfl _ (ptc zeroE zeroE zeroE zeroE) rfl rfl 60 _ ohz__4 info29 rfl (ptc_one _ _ _ _) ?_
 refine wpList_assign rfl rfl rfl ?_
 simp only [Act.put, Act.eval, lA, lS, lZ]
 have n2_5 := setRow_heap _ _ _ (ptc zeroE zeroE zeroE zeroE) _ _ ohz__4
 have hO5 := setRow_below (hO4.trans (hb5.mono (hO4).size)) lwm2_1 (ptc zeroE zeroE zeroE zeroE)
 refine hK5 _ _ ?_
 clear hK5 K5
 refine wp_ret ?_
 simp only [Exit.then]
 refine bodyPost_ret (v := .tuple #[.agg (ptc zeroE zeroE zeroE zeroE), .int .i64 2]) ?_ rfl ⟨_, rfl, hO5, ⟨_, _, rfl, rfl, rfl⟩⟩
 exact results_cell_tmp Tryz.results30 _ _ _ 60 _ (0, 0) _ _ rfl rfl n2_5 Tryz.underlying60 rfl (by first | exact info26 | exact info29 | exact info35 | (rw [(Pt4.cells (by assumption)).1]; exact info29) | (rw [cellsP_size (by assumption)]; exact info29))
theorem readCB (w : World) (hT : Tab5 w) {l : List Nat} {gx off cap c d : Nat} {bb : Bool} {e : Nat} (he : valD tab3.reverse = e) (hb : Bts l (.slice (some ⟨gx, off, none⟩) 32 cap) w) (hl : l.length = 32) (hcc : Hid (c = l.getD 31 0)) (hc256 : c < 256) (han : bits .andNot .u8 (c : Int) 128 = (d : Int)) (hbb : decide (128 ≤ c) = bb) (hl1 : (l.set 31 d).length = 32) (hd1 : Dig (l.set 31 d))
  (hgx : gx < w.heap.size) (hca : w.cell? ⟨gx, off + 31, none⟩ = some (.int .u8 (c : Int))) {y r : Fe} (hy : fe (valD (l.set 31 d)) = y) (hA : valD (l.set 31 d) < pp) (hr : rootOf e (av y) = r) (hs : ¬ r * r = av y) :
  Ret 30 #[.slice (some ⟨gx, off, none⟩) 32 cap] w (Tup2 (Is (.agg (ptc zeroE zeroE zeroE zeroE))) (Is (.int .i64 2))) := by
 unfold Ret
 have hand := and128 c hc256
 rw [hbb] at hand
 clear hbb
 have h32 : ((32 : Int) != 32) = false := rfl
 have hO0 : Below w.heap.size w w := Below.refl _ _
 go_enter Tryz.func30, Tryz.ntmps30
 refine wp_seq_k fun K1 hK1 => ?_
 refine wp_plain_inv 2 (specs [Box w.heap.size (ptc zeroE zeroE zeroE zeroE) 60, Is (.int .i64 0)]) (specs_stb ⟨Box.stb _ _ _, Is.stb _, trivial⟩) (by kernel_rfl) ?_ ?_
 ·refine ⟨fun a w hB hfr hdep => Step.plain rfl (dAlloc29 hB.size rfl),
   fun a w hB hfr hdep => Step.plain rfl (dAssign (R := Is (.int .i64 0)) rfl rfl), trivial⟩
 intro u1 hb1
 simp only [List.take, List.drop, FinAll, Act.put, lA, lS, lZ]
 rintro _ ⟨g2_1, rfl, l2_1, m2_1⟩ _ rfl
 have hO1 := (hO0).trans (hb1.mono (hO0).size)
 have lwm2_1 := Nat.le_trans (hO0).size l2_1
 have hT1 := Tab5.below hT hb1
 refine hK1 _ _ ?_
 clear hK1 K1
 refine wp_seq_k fun KA hKA => ?_
 have HKA : Hid _ := hKA
 clear hKA
 go_wp2
 refine HKA.out _ _ ?_
 clear HKA KA
 refine wp_seq_k fun K2 hK2 => ?_
 refine wp_plain_inv 3 (specs [Is (.slice (some ⟨gx, off, none⟩) 32 cap), OwnC u1.heap.size l, OwnC u1.heap.size l]) (specs_stb ⟨Is.stb _, OwnC.stb _ _, OwnC.stb _ _, trivial⟩) (by kernel_rfl) ?_ ?_
 ·refine ⟨fun a w hB hfr hdep => Step.plain rfl (dMove (R := Is (.slice (some ⟨gx, off, none⟩) 32 cap)) rfl (hfr 0 (by kernel_rfl))),
   fun a w hB hfr hdep => Step.plain rfl (Does.call 65 #[(a.eval (.tmp 14))] (by kernel_rfl) (ownCLo hB.size (cloneIs w (hdep 0 14 (by kernel_rfl)) (Bts.stb _ _ _ _ hB (Bts.stb _ _ _ _ hO1 hb)) hl))),
   fun a w hB hfr hdep => Step.plain rfl (dAssign (R := OwnC u1.heap.size l) rfl (hdep 1 15 (by kernel_rfl))), trivial⟩
 intro u2 hb2
 simp only [List.take, List.drop, FinAll, Act.put, lA, lS, lZ]
 rintro _ rfl v15_2 h15_2 v4_2 h4_2
 have hO2 := (hO1).trans (hb2.mono (hO1).size)
 have m2_1__2 := block_below hb2 (lt_of_heap m2_1) m2_1
 have hT2 := Tab5.below hT1 hb2
 refine hK2 _ _ ?_
 clear hK2 K2
 obtain ⟨g4, cap4, cur4, hv4, hl4, hrow4, hc4, hc4', hcur⟩ := h4_2
 rw [hl] at hv4 hcur
 subst hv4
 have c31 := cell_of_row _ g4 31 _ _ _ hrow4
 rw [hcur 31 (by omega), ← hcc.out] at c31
 have f31 := frozen_of_row _ g4 31 _ _ hrow4
 have hst := cur_set hrow4 (by rw [hl]; exact hcur) 31 d (by omega)
 have hOs := (hO2).setCell (p := ⟨g4, 31, none⟩) (by show _ ≤ g4; have := hO1.size; omega) (.int .u8 (d : Int))
 have nz : g2_1 ≠ g4 := by have := lt_of_heap m2_1; omega
 have hz2 := (heap_setCell_other u2 ⟨g4, 31, none⟩ g2_1 (.int .u8 (d : Int)) nz).trans m2_1__2
 have hTs : Tab5 (u2.setCell ⟨g4, 31, none⟩ (.int .u8 (d : Int))) := hT2.setCell (by have := hT.size; have := hO1.size; show 6 < g4; omega)
 have HOS : Hid _ := hOs
 have HZ2 : Hid _ := hz2
 have HTS : Hid _ := hTs
 have HST : Hid _ := hst
 clear hOs hz2 hTs hst
 refine wp_seq_k fun KB hKB => ?_
 have HKB : Hid _ := hKB
 clear hKB
 go_wp2
 refine HKB.out _ _ ?_
 clear HKB KB
 have hO := HOS.out
 have hz := HZ2.out
 have hT9 := HTS.out
 have hb9 : Bts (l.set 31 d) (.slice (some ⟨g4, 0, none⟩) 32 cap4) (u2.setCell ⟨g4, 31, none⟩ (.int .u8 (d : Int))) := ⟨_, _, by rw [hl1], by rw [hl1]; rw [hl] at hc4; exact hc4, hc4', fun _ => ⟨g4, 0, rfl, bytesAt_cur HST.out.1 HST.out.2⟩⟩
 clear HOS HZ2 HTS HST c31 f31
 generalize u2.setCell ⟨g4, 31, none⟩ (.int .u8 (d : Int)) = uu at hO hz hT9 hb9 ⊢
 refine wp_seq_k fun K3 hK3 => ?_
 refine wp_plain_inv 6 (specs [Bts (l.set 31 d), Tup2 (El (y)) (Is (.int .i64 0)), Tup2 (El (y)) (Is (.int .i64 0)), El (y), Is (.int .i64 0), Box uu.heap.size (elc zeroE) 58]) (specs_stb ⟨Bts.stb _, Tup2.stb (El.stb _) (Is.stb _), Tup2.stb (El.stb _) (Is.stb _), El.stb _, Is.stb _, Box.stb _ _ _, trivial⟩) (by kernel_rfl) ?_ ?_
 ·refine ⟨fun a w hB hfr hdep => Step.plain rfl (dMove (R := Bts (l.set 31 d)) rfl (use (hfr 4 (by kernel_rfl)) ((Bts.stb _) _ _ _ hB hb9))),
   fun a w hB hfr hdep => Step.plain rfl (Does.call 66 #[(a.eval (.tmp 22))] (by kernel_rfl) (cReadY hy w (hdep 0 22 (by kernel_rfl)) hl1 hd1 hA)),
   fun a w hB hfr hdep => Step.plain rfl (dMove (R := Tup2 (El (y)) (Is (.int .i64 0))) rfl (hdep 1 23 (by kernel_rfl))),
   fun a w hB hfr hdep => Step.plain rfl (dExt0 rfl (hdep 2 21 (by kernel_rfl))),
   fun a w hB hfr hdep => Step.plain rfl (dExt1 rfl (hdep 2 21 (by kernel_rfl))),
   fun a w hB hfr hdep => Step.plain rfl (dAlloc27 hB.size rfl), trivial⟩
 intro u3 hb3
 simp only [List.take, List.drop, FinAll, Act.put, lA, lS, lZ]
 rintro v22_3 h22_3 v23_3 h23_3 v21_3 h21_3 _ ⟨e24_3, q24_3, rfl, x24_3⟩ _ rfl _ ⟨g5_3, rfl, l5_3, m5_3⟩
 refine wpList_store_row rfl 58 (.tmp 5) (.tmp 24) rfl _ (elc e24_3) rfl rfl 58 _ m5_3 info26 rfl (elc_one _) ?_
 have n5_3 := setRow_heap _ _ _ (elc e24_3) _ _ m5_3
 replace hb3 := setRow_below hb3 l5_3 (elc e24_3)
 generalize hw3_1 : u3.setRow g5_3 (elc e24_3) = u3_1 at n5_3 hb3  ⊢
 clear hw3_1 m5_3
 refine wpList_assign rfl rfl rfl ?_
 simp only [Act.put, Act.eval, Array.getD_eq_getD_getElem?, List.getElem?_toArray, List.getElem?_cons_succ, List.getElem?_cons_zero, Option.getD_some, lA, lS, lZ]
 have hO3 := (hO).trans (hb3.mono (hO).size)
 have hz__3 := block_below hb3 (lt_of_heap hz) hz
 have lwn5_3 := Nat.le_trans (hO).size l5_3
 have hT3 := Tab5.below hT9 hb3
 refine hK3 _ _ ?_
 clear hK3 K3
 refine wp_seq_k fun KO6 hKO6 => ?_
 refine wp_seq_k fun K4 hK4 => ?_
 refine wp_plain_inv 2 (specs [Is (.int .i64 0), Is (.bool false)]) (specs_stb ⟨Is.stb _, Is.stb _, trivial⟩) (by kernel_rfl) ?_ ?_
 ·refine ⟨fun a w hB hfr hdep => Step.plain rfl (dMove (R := Is (.int .i64 0)) rfl (hfr 6 (by kernel_rfl))),
   fun a w hB hfr hdep => Step.plain rfl (Does.run _ (run_binO rfl (hdep 0 26 (by kernel_rfl)) rfl (by kernel_rfl)) rfl), trivial⟩
 intro u4 hb4
 simp only [List.take, List.drop, FinAll, Act.put, lA, lS, lZ]
 rintro _ rfl _ rfl
 have hO4 := (hO3).trans (hb4.mono (hO3).size)
 have hz__4 := block_below hb4 (lt_of_heap hz__3) hz__3
 have n5_3__4 := block_below hb4 (lt_of_heap n5_3) n5_3
 have hT4 := Tab5.below hT3 hb4
 refine hK4 _ _ ?_
 clear hK4 K4
 refine wp_cond_false rfl ?_
 refine wp_skip ?_
 refine hKO6 _ _ ?_
 clear hKO6 KO6
 refine wp_seq_k fun K5 hK5 => ?_
 refine wp_plain_inv 6 (specs [El (y), Tup2 (El (r)) (Is (.bool false)), Tup2 (El (r)) (Is (.bool false)), El (r), Is (.bool false), Box u4.heap.size (elc zeroE) 58]) (specs_stb ⟨El.stb _, Tup2.stb (El.stb _) (Is.stb _), Tup2.stb (El.stb _) (Is.stb _), El.stb _, Is.stb _, Box.stb _ _ _, trivial⟩) (by kernel_rfl) ?_ ?_
 ·refine ⟨fun a w hB hfr hdep => Step.plain rfl (dLoadEl q24_3 x24_3 (block_below hB (lt_of_heap n5_3__4) n5_3__4) rfl (hfr 5 (by kernel_rfl)) (fun _ h => h)),
   fun a w hB hfr hdep => Step.plain rfl (Does.call 67 #[(a.eval (.tmp 30))] (by kernel_rfl) (cXWithF he hr hs w w (Tab5.below hT4 hB) (hdep 0 30 (by kernel_rfl)))),
   fun a w hB hfr hdep => Step.plain rfl (dMove (R := Tup2 (El (r)) (Is (.bool false))) rfl (hdep 1 31 (by kernel_rfl))),
   fun a w hB hfr hdep => Step.plain rfl (dExt0 rfl (hdep 2 29 (by kernel_rfl))),
   fun a w hB hfr hdep => Step.plain rfl (dExt1 rfl (hdep 2 29 (by kernel_rfl))),
   fun a w hB hfr hdep => Step.plain rfl (dAlloc27 hB.size rfl), trivial⟩
 intro u5 hb5
 simp only [List.take, List.drop, FinAll, Act.put, lA, lS, lZ]
 rintro v30_5 h30_5 v31_5 h31_5 v29_5 h29_5 _ ⟨e32_5, q32_5, rfl, x32_5⟩ _ rfl _ ⟨g7_5, rfl, l7_5, m7_5⟩
 refine wpList_store_row rfl 58 (.tmp 7) (.tmp 32) rfl _ (elc e32_5) rfl rfl 58 _ m7_5 info26 rfl (elc_one _) ?_
 have n7_5 := setRow_heap _ _ _ (elc e32_5) _ _ m7_5
 replace hb5 := setRow_below hb5 l7_5 (elc e32_5)
 generalize hw5_1 : u5.setRow g7_5 (elc e32_5) = u5_1 at n7_5 hb5  ⊢
 clear hw5_1 m7_5
 refine wpList_assign rfl rfl rfl ?_
 simp only [Act.put, Act.eval, Array.getD_eq_getD_getElem?, List.getElem?_toArray, List.getElem?_cons_succ, List.getElem?_cons_zero, Option.getD_some, lA, lS, lZ]
 have hO5 := (hO4).trans (hb5.mono (hO4).size)
 have hz__5 := block_below hb5 (lt_of_heap hz__4) hz__4
 have n5_3__5 := block_below hb5 (lt_of_heap n5_3__4) n5_3__4
 have lwn7_5 := Nat.le_trans (hO4).size l7_5
 have hT5 := Tab5.below hT4 hb5
 refine hK5 _ _ ?_
 clear hK5 K5
 refine wp_seq_k fun KO9 hKO9 => ?_
 refine wp_seq_k fun K6 hK6 => ?_
 refine wp_plain_inv 2 (specs [Is (.bool false), Is (.bool true)]) (specs_stb ⟨Is.stb _, Is.stb _, trivial⟩) (by kernel_rfl) ?_ ?_
 ·refine ⟨fun a w hB hfr hdep => Step.plain rfl (dMove (R := Is (.bool false)) rfl (hfr 8 (by kernel_rfl))),
   fun a w hB hfr hdep => Step.plain rfl (Does.run _ (run_notO rfl (hdep 0 34 (by kernel_rfl))) rfl), trivial⟩
 intro u6 hb6
 simp only [List.take, List.drop, FinAll, Act.put, lA, lS, lZ]
 rintro _ rfl _ rfl
 have hO6 := (hO5).trans (hb6.mono (hO5).size)
 have hz__6 := block_below hb6 (lt_of_heap hz__5) hz__5
 have n5_3__6 := block_below hb6 (lt_of_heap n5_3__5) n5_3__5
 have n7_5__6 := block_below hb6 (lt_of_heap n7_5) n7_5
 have hT6 := Tab5.below hT5 hb6
 refine hK6 _ _ ?_
 clear hK6 K6
 refine wp_cond_true rfl ?_
 refine wp_seq_k fun K7 hK7 => ?_
 refine wp_plain_inv 1 (specs [Is (.agg (ptc zeroE zeroE zeroE zeroE))]) (specs_stb ⟨Is.stb _, trivial⟩) (by kernel_rfl) ?_ ?_
 ·refine ⟨fun a w hB hfr hdep => Step.plain rfl (Does.run _ (bu29z rfl) rfl), trivial⟩
 intro u7 hb7
 simp only [List.take, List.drop, FinAll, Act.put, lA, lS, lZ]
 rintro _ rfl
 have ohz__6 := block_below hb7 (lt_of_heap hz__6) hz__6
 refine wpList_store_row rfl 60 (.tmp 2) (.tmp 36) rfl _ (ptc zeroE zeroE zeroE zeroE) rfl rfl 60 _ ohz__6 info29 rfl (ptc_one _ _ _ _) ?_
 refine wpList_assign rfl rfl rfl ?_
 simp only [Act.put, Act.eval, lA, lS, lZ]
 have n2_7 := setRow_heap _ _ _ (ptc zeroE zeroE zeroE zeroE) _ _ ohz__6
 have hO7 := setRow_below (hO6.trans (hb7.mono (hO6).size)) lwm2_1 (ptc zeroE zeroE zeroE zeroE)
 refine hK7 _ _ ?_
 clear hK7 K7
 refine wp_ret ?_
 simp only [Exit.then]
 refine bodyPost_ret (v := .tuple #[.agg (ptc zeroE zeroE zeroE zeroE), .int .i64 2]) ?_ rfl ⟨_, rfl, hO7, ⟨_, _, rfl, rfl, rfl⟩⟩
 exact results_cell_tmp Tryz.results30 _ _ _ 60 _ (0, 0) _ _ rfl rfl n2_7 Tryz.underlying60 rfl (by first | exact info26 | exact info29 | exact info35 | (rw [(Pt4.cells (by assumption)).1]; exact info29) | (rw [cellsP_size (by assumption)]; exact info29))
theorem readCC (w : World) (hT : Tab5 w) {l : List Nat} {gx off cap c d : Nat} {bb : Bool} {e : Nat} (he : valD tab3.reverse = e) (hb : Bts l (.slice (some ⟨gx, off, none⟩) 32 cap) w) (hl : l.length = 32) (hcc : Hid (c = l.getD 31 0)) (hc256 : c < 256) (han : bits .andNot .u8 (c : Int) 128 = (d : Int)) (hbb : decide (128 ≤ c) = bb) (hl1 : (l.set 31 d).length = 32) (hd1 : Dig (l.set 31 d))
  (hgx : gx < w.heap.size) (hca : w.cell? ⟨gx, off + 31, none⟩ = some (.int .u8 (c : Int))) {y r : Fe} {p : Pt} (hy : fe (valD (l.set 31 d)) = y) (hA : valD (l.set 31 d) < pp) (hr : rootOf e (av y) = r) (hs : r * r = av y) (ho1 : decide (r.val % 2 = 1) = bb) (hpx : p.x = r) (hpy : p.y = y) :
  Ret 30 #[.slice (some ⟨gx, off, none⟩) 32 cap] w (Tup2 (PtV p) (Is (.int .i64 0))) := by
 unfold Ret
 have hand := and128 c hc256
 rw [hbb] at hand
 clear hbb
 have ho2 := ho1
 have h32 : ((32 : Int) != 32) = false := rfl
 have hO0 : Below w.heap.size w w := Below.refl _ _
 go_enter Tryz.func30, Tryz.ntmps30
 refine wp_seq_k fun K1 hK1 => ?_
 refine wp_plain_inv 2 (specs [Box w.heap.size (ptc zeroE zeroE zeroE zeroE) 60, Is (.int .i64 0)]) (specs_stb ⟨Box.stb _ _ _, Is.stb _, trivial⟩) (by kernel_rfl) ?_ ?_
 ·refine ⟨fun a w hB hfr hdep => Step.plain rfl (dAlloc29 hB.size rfl),
   fun a w hB hfr hdep => Step.plain rfl (dAssign (R := Is (.int .i64 0)) rfl rfl), trivial⟩
 intro u1 hb1
 simp only [List.take, List.drop, FinAll, Act.put, lA, lS, lZ]
 rintro _ ⟨g2_1, rfl, l2_1, m2_1⟩ _ rfl
 have hO1 := (hO0).trans (hb1.mono (hO0).size)
 have lwm2_1 := Nat.le_trans (hO0).size l2_1
 have hT1 := Tab5.below hT hb1
 refine hK1 _ _ ?_
 clear hK1 K1
 refine wp_seq_k fun KA hKA => ?_
 have HKA : Hid _ := hKA
 clear hKA
 go_wp2
 refine HKA.out _ _ ?_
 clear HKA KA
 refine wp_seq_k fun K2 hK2 => ?_
 refine wp_plain_inv 3 (specs [Is (.slice (some ⟨gx, off, none⟩) 32 cap), OwnC u1.heap.size l, OwnC u1.heap.size l]) (specs_stb ⟨Is.stb _, OwnC.stb _ _, OwnC.stb _ _, trivial⟩) (by kernel_rfl) ?_ ?_
 ·refine ⟨fun a w hB hfr hdep => Step.plain rfl (dMove (R := Is (.slice (some ⟨gx, off, none⟩) 32 cap)) rfl (hfr 0 (by kernel_rfl))),
   fun a w hB hfr hdep => Step.plain rfl (Does.call 65 #[(a.eval (.tmp 14))] (by kernel_rfl) (ownCLo hB.size (cloneIs w (hdep 0 14 (by kernel_rfl)) (Bts.stb _ _ _ _ hB (Bts.stb _ _ _ _ hO1 hb)) hl))),
   fun a w hB hfr hdep => Step.plain rfl (dAssign (R := OwnC u1.heap.size l) rfl (hdep 1 15 (by kernel_rfl))), trivial⟩
 intro u2 hb2
 simp only [List.take, List.drop, FinAll, Act.put, lA, lS, lZ]
 rintro _ rfl v15_2 h15_2 v4_2 h4_2
 have hO2 := (hO1).trans (hb2.mono (hO1).size)
 have m2_1__2 := block_below hb2 (lt_of_heap m2_1) m2_1
 have hT2 := Tab5.below hT1 hb2
 refine hK2 _ _ ?_
 clear hK2 K2
 obtain ⟨g4, cap4, cur4, hv4, hl4, hrow4, hc4, hc4', hcur⟩ := h4_2
 rw [hl] at hv4 hcur
 subst hv4
 have c31 := cell_of_row _ g4 31 _ _ _ hrow4
 rw [hcur 31 (by omega), ← hcc.out] at c31
 have f31 := frozen_of_row _ g4 31 _ _ hrow4
 have hst := cur_set hrow4 (by rw [hl]; exact hcur) 31 d (by omega)
 have hOs := (hO2).setCell (p := ⟨g4, 31, none⟩) (by show _ ≤ g4; have := hO1.size; omega) (.int .u8 (d : Int))
 have nz : g2_1 ≠ g4 := by have := lt_of_heap m2_1; omega
 have hz2 := (heap_setCell_other u2 ⟨g4, 31, none⟩ g2_1 (.int .u8 (d : Int)) nz).trans m2_1__2
 have hTs : Tab5 (u2.setCell ⟨g4, 31, none⟩ (.int .u8 (d : Int))) := hT2.setCell (by have := hT.size; have := hO1.size; show 6 < g4; omega)
 have HOS : Hid _ := hOs
 have HZ2 : Hid _ := hz2
 have HTS : Hid _ := hTs
 have HST : Hid _ := hst
 clear hOs hz2 hTs hst
 refine wp_seq_k fun KB hKB => ?_
 have HKB : Hid _ := hKB
 clear hKB
 go_wp2
 refine HKB.out _ _ ?_
 clear HKB KB
 have hO := HOS.out
 have hz := HZ2.out
 have hT9 := HTS.out
 have hb9 : Bts (l.set 31 d) (.slice (some ⟨g4, 0, none⟩) 32 cap4) (u2.setCell ⟨g4, 31, none⟩ (.int .u8 (d : Int))) := ⟨_, _, by rw [hl1], by rw [hl1]; rw [hl] at hc4; exact hc4, hc4', fun _ => ⟨g4, 0, rfl, bytesAt_cur HST.out.1 HST.out.2⟩⟩
 clear HOS HZ2 HTS HST c31 f31
 generalize u2.setCell ⟨g4, 31, none⟩ (.int .u8 (d : Int)) = uu at hO hz hT9 hb9 ⊢
 refine wp_seq_k fun K3 hK3 => ?_
 refine wp_plain_inv 6 (specs [Bts (l.set 31 d), Tup2 (El (y)) (Is (.int .i64 0)), Tup2 (El (y)) (Is (.int .i64 0)), El (y), Is (.int .i64 0), Box uu.heap.size (elc zeroE) 58]) (specs_stb ⟨Bts.stb _, Tup2.stb (El.stb _) (Is.stb _), Tup2.stb (El.stb _) (Is.stb _), El.stb _, Is.stb _, Box.stb _ _ _, trivial⟩) (by kernel_rfl) ?_ ?_
 ·refine ⟨fun a w hB hfr hdep => Step.plain rfl (dMove (R := Bts (l.set 31 d)) rfl (use (hfr 4 (by kernel_rfl)) ((Bts.stb _) _ _ _ hB hb9))),
   fun a w hB hfr hdep => Step.plain rfl (Does.call 66 #[(a.eval (.tmp 22))] (by kernel_rfl) (cReadY hy w (hdep 0 22 (by kernel_rfl)) hl1 hd1 hA)),
   fun a w hB hfr hdep => Step.plain rfl (dMove (R := Tup2 (El (y)) (Is (.int .i64 0))) rfl (hdep 1 23 (by kernel_rfl))),
   fun a w hB hfr hdep => Step.plain rfl (dExt0 rfl (hdep 2 21 (by kernel_rfl))),
   fun a w hB hfr hdep => Step.plain rfl (dExt1 rfl (hdep 2 21 (by kernel_rfl))),
   fun a w hB hfr hdep => Step.plain rfl (dAlloc27 hB.size rfl), trivial⟩
 intro u3 hb3
 simp only [List.take, List.drop, FinAll, Act.put, lA, lS, lZ]
 rintro v22_3 h22_3 v23_3 h23_3 v21_3 h21_3 _ ⟨e24_3, q24_3, rfl, x24_3⟩ _ rfl _ ⟨g5_3, rfl, l5_3, m5_3⟩
 refine wpList_store_row rfl 58 (.tmp 5) (.tmp 24) rfl _ (elc e24_3) rfl rfl 58 _ m5_3 info26 rfl (elc_one _) ?_
 have n5_3 := setRow_heap _ _ _ (elc e24_3) _ _ m5_3
 replace hb3 := setRow_below hb3 l5_3 (elc e24_3)
 generalize hw3_1 : u3.setRow g5_3 (elc e24_3) = u3_1 at n5_3 hb3  ⊢
 clear hw3_1 m5_3
 refine wpList_assign rfl rfl rfl ?_
 simp only [Act.put, Act.eval, Array.getD_eq_getD_getElem?, List.getElem?_toArray, List.getElem?_cons_succ, List.getElem?_cons_zero, Option.getD_some, lA, lS, lZ]
 have hO3 := (hO).trans (hb3.mono (hO).size)
 have hz__3 := block_below hb3 (lt_of_heap hz) hz
 have lwn5_3 := Nat.le_trans (hO).size l5_3
 have hT3 := Tab5.below hT9 hb3
 refine hK3 _ _ ?_
 clear hK3 K3
 refine wp_seq_k fun KO6 hKO6 => ?_
 refine wp_seq_k fun K4 hK4 => ?_
 refine wp_plain_inv 2 (specs [Is (.int .i64 0), Is (.bool false)]) (specs_stb ⟨Is.stb _, Is.stb _, trivial⟩) (by kernel_rfl) ?_ ?_
 ·refine ⟨fun a w hB hfr hdep => Step.plain rfl (dMove (R := Is (.int .i64 0)) rfl (hfr 6 (by kernel_rfl))),
   fun a w hB hfr hdep => Step.plain rfl (Does.run _ (run_binO rfl (hdep 0 26 (by kernel_rfl)) rfl (by kernel_rfl)) rfl), trivial⟩
 intro u4 hb4
 simp only [List.take, List.drop, FinAll, Act.put, lA, lS, lZ]
 rintro _ rfl _ rfl
 have hO4 := (hO3).trans (hb4.mono (hO3).size)
 have hz__4 := block_below hb4 (lt_of_heap hz__3) hz__3
 have n5_3__4 := block_below hb4 (lt_of_heap n5_3) n5_3
 have hT4 := Tab5.below hT3 hb4
 refine hK4 _ _ ?_
 clear hK4 K4
 refine wp_cond_false rfl ?_
 refine wp_skip ?_
 refine hKO6 _ _ ?_
 clear hKO6 KO6
 refine wp_seq_k fun K5 hK5 => ?_
 refine wp_plain_inv 6 (specs [El (y), Tup2 (El (r)) (Is (.bool true)), Tup2 (El (r)) (Is (.bool true)), El (r), Is (.bool true), Box u4.heap.size (elc zeroE) 58]) (specs_stb ⟨El.stb _, Tup2.stb (El.stb _) (Is.stb _), Tup2.stb (El.stb _) (Is.stb _), El.stb _, Is.stb _, Box.stb _ _ _, trivial⟩) (by kernel_rfl) ?_ ?_
 ·refine ⟨fun a w hB hfr hdep => Step.plain rfl (dLoadEl q24_3 x24_3 (block_below hB (lt_of_heap n5_3__4) n5_3__4) rfl (hfr 5 (by kernel_rfl)) (fun _ h => h)),
   fun a w hB hfr hdep => Step.plain rfl (Does.call 67 #[(a.eval (.tmp 30))] (by kernel_rfl) (cXWithT he hr hs w w (Tab5.below hT4 hB) (hdep 0 30 (by kernel_rfl)))),
   fun a w hB hfr hdep => Step.plain rfl (dMove (R := Tup2 (El (r)) (Is (.bool true))) rfl (hdep 1 31 (by kernel_rfl))),
   fun a w hB hfr hdep => Step.plain rfl (dExt0 rfl (hdep 2 29 (by kernel_rfl))),
   fun a w hB hfr hdep => Step.plain rfl (dExt1 rfl (hdep 2 29 (by kernel_rfl))),
   fun a w hB hfr hdep => Step.plain rfl (dAlloc27 hB.size rfl), trivial⟩
 intro u5 hb5
 simp only [List.take, List.drop, FinAll, Act.put, lA, lS, lZ]
 rintro v30_5 h30_5 v31_5 h31_5 v29_5 h29_5 _ ⟨e32_5, q32_5, rfl, x32_5⟩ _ rfl _ ⟨g7_5, rfl, l7_5, m7_5⟩
 refine wpList_store_row rfl 58 (.tmp 7) (.tmp 32) rfl _ (elc e32_5) rfl rfl 58 _ m7_5 info26 rfl (elc_one _) ?_
 have n7_5 := setRow_heap _ _ _ (elc e32_5) _ _ m7_5
 replace hb5 := setRow_below hb5 l7_5 (elc e32_5)
 generalize hw5_1 : u5.setRow g7_5 (elc e32_5) = u5_1 at n7_5 hb5  ⊢
 clear hw5_1 m7_5
 refine wpList_assign rfl rfl rfl ?_
 simp only [Act.put, Act.eval, Array.getD_eq_getD_getElem?, List.getElem?_toArray, List.getElem?_cons_succ, List.getElem?_cons_zero, Option.getD_some, lA, lS, lZ]
 have hO5 := (hO4).trans (hb5.mono (hO4).size)
 have hz__5 := block_below hb5 (lt_of_heap hz__4) hz__4
 have n5_3__5 := block_below hb5 (lt_of_heap n5_3__4) n5_3__4
 have lwn7_5 := Nat.le_trans (hO4).size l7_5
 have hT5 := Tab5.below hT4 hb5
 refine hK5 _ _ ?_
 clear hK5 K5
 refine wp_seq_k fun KO9 hKO9 => ?_
 refine wp_seq_k fun K6 hK6 => ?_
 refine wp_plain_inv 2 (specs [Is (.bool true), Is (.bool false)]) (specs_stb ⟨Is.stb _, Is.stb _, trivial⟩) (by kernel_rfl) ?_ ?_
 ·refine ⟨fun a w hB hfr hdep => Step.plain rfl (dMove (R := Is (.bool true)) rfl (hfr 8 (by kernel_rfl))),
   fun a w hB hfr hdep => Step.plain rfl (Does.run _ (run_notO rfl (hdep 0 34 (by kernel_rfl))) rfl), trivial⟩
 intro u6 hb6
 simp only [List.take, List.drop, FinAll, Act.put, lA, lS, lZ]
 rintro _ rfl _ rfl
 have hO6 := (hO5).trans (hb6.mono (hO5).size)
 have hz__6 := block_below hb6 (lt_of_heap hz__5) hz__5
 have n5_3__6 := block_below hb6 (lt_of_heap n5_3__5) n5_3__5
 have n7_5__6 := block_below hb6 (lt_of_heap n7_5) n7_5
 have hT6 := Tab5.below hT5 hb6
 refine hK6 _ _ ?_
 clear hK6 K6
 refine wp_cond_false rfl ?_
 refine wp_skip ?_
 refine hKO9 _ _ ?_
 clear hKO9 KO9
 have ca := (hO6.cell (p := ⟨gx, off + 31, none⟩) hgx).trans hca
 refine wp_seq_k fun KC hKC => ?_
 have HKC : Hid _ := hKC
 clear hKC
 go_wp2
 refine HKC.out _ _ ?_
 clear HKC KC
 refine wp_seq_k fun KO12 hKO12 => ?_
 refine wp_seq_k fun K7 hK7 => ?_
 refine wp_plain_inv 4 (specs [El (r), Is (.bool bb), Is (.bool bb), Is (.bool false)]) (specs_stb ⟨El.stb _, Is.stb _, Is.stb _, Is.stb _, trivial⟩) (by kernel_rfl) ?_ ?_
 ·refine ⟨fun a w hB hfr hdep => Step.plain rfl (dLoadEl q32_5 x32_5 (block_below hB (lt_of_heap n7_5__6) n7_5__6) rfl (hfr 7 (by kernel_rfl)) (fun _ h => h)),
   fun a w hB hfr hdep => Step.plain rfl (Does.call 68 #[(a.eval (.tmp 42))] (by kernel_rfl) (cOddB ho1 w w (hdep 0 42 (by kernel_rfl)))),
   fun a w hB hfr hdep => Step.plain rfl (dMove (R := Is (.bool bb)) rfl (hfr 9 (by kernel_rfl))),
   fun a w hB hfr hdep => Step.plain rfl (Does.run _ (run_neqS rfl (hdep 1 43 (by kernel_rfl)) (hdep 2 44 (by kernel_rfl))) rfl), trivial⟩
 intro u7 hb7
 simp only [List.take, List.drop, FinAll, Act.put, lA, lS, lZ]
 rintro v42_7 h42_7 _ rfl _ rfl _ rfl
 have hO7 := (hO6).trans (hb7.mono (hO6).size)
 have hz__7 := block_below hb7 (lt_of_heap hz__6) hz__6
 have n5_3__7 := block_below hb7 (lt_of_heap n5_3__6) n5_3__6
 have n7_5__7 := block_below hb7 (lt_of_heap n7_5__6) n7_5__6
 have hT7 := Tab5.below hT6 hb7
 refine hK7 _ _ ?_
 clear hK7 K7
 refine wp_cond_false rfl ?_
 refine wp_skip ?_
 refine hKO12 _ _ ?_
 clear hKO12 KO12
 refine wp_seq_k fun KO14 hKO14 => ?_
 refine wp_seq_k fun K8 hK8 => ?_
 refine wp_plain_inv 4 (specs [El (r), Is (.bool bb), Is (.bool bb), Is (.bool false)]) (specs_stb ⟨El.stb _, Is.stb _, Is.stb _, Is.stb _, trivial⟩) (by kernel_rfl) ?_ ?_
 ·refine ⟨fun a w hB hfr hdep => Step.plain rfl (dLoadEl q32_5 x32_5 (block_below hB (lt_of_heap n7_5__7) n7_5__7) rfl (hfr 7 (by kernel_rfl)) (fun _ h => h)),
   fun a w hB hfr hdep => Step.plain rfl (Does.call 68 #[(a.eval (.tmp 48))] (by kernel_rfl) (cOddB ho2 w w (hdep 0 48 (by kernel_rfl)))),
   fun a w hB hfr hdep => Step.plain rfl (dMove (R := Is (.bool bb)) rfl (hfr 9 (by kernel_rfl))),
   fun a w hB hfr hdep => Step.plain rfl (Does.run _ (run_neqS rfl (hdep 1 49 (by kernel_rfl)) (hdep 2 50 (by kernel_rfl))) rfl), trivial⟩
 intro u8 hb8
 simp only [List.take, List.drop, FinAll, Act.put, lA, lS, lZ]
 rintro v48_8 h48_8 _ rfl _ rfl _ rfl
 have hO8 := (hO7).trans (hb8.mono (hO7).size)
 have hz__8 := block_below hb8 (lt_of_heap hz__7) hz__7
 have n5_3__8 := block_below hb8 (lt_of_heap n5_3__7) n5_3__7
 have n7_5__8 := block_below hb8 (lt_of_heap n7_5__7) n7_5__7
 have hT8 := Tab5.below hT7 hb8
 refine hK8 _ _ ?_
 clear hK8 K8
 refine wp_cond_false rfl ?_
 refine wp_skip ?_
 refine hKO14 _ _ ?_
 clear hKO14 KO14
 refine wp_seq_k fun K9 hK9 => ?_
 refine wp_plain_inv 3 (specs [El (r), El (y), Pt4 (r) (y) (1) ((r) * (y))]) (specs_stb ⟨El.stb _, El.stb _, Pt4.stb _ _ _ _, trivial⟩) (by kernel_rfl) ?_ ?_
 ·refine ⟨fun a w hB hfr hdep => Step.plain rfl (dLoadEl q32_5 x32_5 (block_below hB (lt_of_heap n7_5__8) n7_5__8) rfl (hfr 7 (by kernel_rfl)) (fun _ h => h)),
   fun a w hB hfr hdep => Step.plain rfl (dLoadEl q24_3 x24_3 (block_below hB (lt_of_heap n5_3__8) n5_3__8) rfl (hfr 5 (by kernel_rfl)) (fun _ h => h)),
   fun a w hB hfr hdep => Step.plain rfl (Does.call 70 #[(a.eval (.tmp 53)), (a.eval (.tmp 54))] (by kernel_rfl) (cOfPair w w w (hdep 0 53 (by kernel_rfl)) (hdep 1 54 (by kernel_rfl)))), trivial⟩
 intro u9 hb9
 simp only [List.take, List.drop, FinAll, Act.put, lA, lS, lZ]
 rintro v53_9 h53_9 v54_9 h54_9 _ ⟨e55_9, rfl, x55_9⟩
 have ohz__8 := block_below hb9 (lt_of_heap hz__8) hz__8
 refine wpList_store_row rfl 60 (.tmp 2) (.tmp 55) rfl _ (e55_9) rfl rfl 60 _ ohz__8 (by rw [(Pt4.cells x55_9).1]; exact info29) (by rw [(Pt4.cells x55_9).1]; rfl) (Pt4.cells x55_9).2 ?_
 refine wpList_assign rfl rfl rfl ?_
 simp only [Act.put, Act.eval, lA, lS, lZ]
 have n2_9 := setRow_heap _ _ _ (e55_9) _ _ ohz__8
 have hO9 := setRow_below (hO8.trans (hb9.mono (hO8).size)) lwm2_1 (e55_9)
 have hpp : Rep (r) (y) (1) ((r) * (y)) p := by have := rep_aff p; rw [hpx, hpy] at this; exact this
 refine hK9 _ _ ?_
 clear hK9 K9
 refine wp_ret ?_
 refine bodyPost_ret (v := .tuple #[.agg (e55_9), .int .i64 0]) ?_ rfl ⟨_, rfl, hO9, ⟨_, _, rfl, ⟨_, rfl, _, _, _, _, x55_9, hpp⟩, rfl⟩⟩
 exact results_cell_tmp Tryz.results30 _ _ _ 60 _ (0, 0) _ _ rfl rfl n2_9 Tryz.underlying60 rfl (by first | exact info26 | exact info29 | exact info35 | (rw [(Pt4.cells (by assumption)).1]; exact info29) | (rw [cellsP_size (by assumption)]; exact info29))
theorem readCD (w : World) (hT : Tab5 w) {l : List Nat} {gx off cap c d : Nat} {bb : Bool} {e : Nat} (he : valD tab3.reverse = e) (hb : Bts l (.slice (some ⟨gx, off, none⟩) 32 cap) w) (hl : l.length = 32) (hcc : Hid (c = l.getD 31 0)) (hc256 : c < 256) (han : bits .andNot .u8 (c : Int) 128 = (d : Int)) (hbb : decide (128 ≤ c) = bb) (hl1 : (l.set 31 d).length = 32) (hd1 : Dig (l.set 31 d))
  (hgx : gx < w.heap.size) (hca : w.cell? ⟨gx, off + 31, none⟩ = some (.int .u8 (c : Int))) {y r : Fe} {p : Pt} (hy : fe (valD (l.set 31 d)) = y) (hA : valD (l.set 31 d) < pp) (hr : rootOf e (av y) = r) (hs : r * r = av y) (ho1 : decide (r.val % 2 = 1) = !bb) (ho2 : decide ((0 - r).val % 2 = 1) = bb) (hpx : p.x = 0 - (r)) (hpy : p.y = y) :
  Ret 30 #[.slice (some ⟨gx, off, none⟩) 32 cap] w (Tup2 (PtV p) (Is (.int .i64 0))) := by
 unfold Ret
 have hand := and128 c hc256
 rw [hbb] at hand
 clear hbb
 have h32 : ((32 : Int) != 32) = false := rfl
 have hO0 : Below w.heap.size w w := Below.refl _ _
 go_enter Tryz.func30, Tryz.ntmps30
 refine wp_seq_k fun K1 hK1 => ?_
 refine wp_plain_inv 2 (specs [Box w.heap.size (ptc zeroE zeroE zeroE zeroE) 60, Is (.int .i64 0)]) (specs_stb ⟨Box.stb _ _ _, Is.stb _, trivial⟩) (by kernel_rfl) ?_ ?_
 ·refine ⟨fun a w hB hfr hdep => Step.plain rfl (dAlloc29 hB.size rfl),
   fun a w hB hfr hdep => Step.plain rfl (dAssign (R := Is (.int .i64 0)) rfl rfl), trivial⟩
 intro u1 hb1
 simp only [List.take, List.drop, FinAll, Act.put, lA, lS, lZ]
 rintro _ ⟨g2_1, rfl, l2_1, m2_1⟩ _ rfl
 have hO1 := (hO0).trans (hb1.mono (hO0).size)
 have lwm2_1 := Nat.le_trans (hO0).size l2_1
 have hT1 := Tab5.below hT hb1
 refine hK1 _ _ ?_
 clear hK1 K1
 refine wp_seq_k fun KA hKA => ?_
 have HKA : Hid _ := hKA
 clear hKA
 go_wp2
 refine HKA.out _ _ ?_
 clear HKA KA
 refine wp_seq_k fun K2 hK2 => ?_
 refine wp_plain_inv 3 (specs [Is (.slice (some ⟨gx, off, none⟩) 32 cap), OwnC u1.heap.size l, OwnC u1.heap.size l]) (specs_stb ⟨Is.stb _, OwnC.stb _ _, OwnC.stb _ _, trivial⟩) (by kernel_rfl) ?_ ?_
 ·refine ⟨fun a w hB hfr hdep => Step.plain rfl (dMove (R := Is (.slice (some ⟨gx, off, none⟩) 32 cap)) rfl (hfr 0 (by kernel_rfl))),
   fun a w hB hfr hdep => Step.plain rfl (Does.call 65 #[(a.eval (.tmp 14))] (by kernel_rfl) (ownCLo hB.size (cloneIs w (hdep 0 14 (by kernel_rfl)) (Bts.stb _ _ _ _ hB (Bts.stb _ _ _ _ hO1 hb)) hl))),
   fun a w hB hfr hdep => Step.plain rfl (dAssign (R := OwnC u1.heap.size l) rfl (hdep 1 15 (by kernel_rfl))), trivial⟩
 intro u2 hb2
 simp only [List.take, List.drop, FinAll, Act.put, lA, lS, lZ]
 rintro _ rfl v15_2 h15_2 v4_2 h4_2
 have hO2 := (hO1).trans (hb2.mono (hO1).size)
 have m2_1__2 := block_below hb2 (lt_of_heap m2_1) m2_1
 have hT2 := Tab5.below hT1 hb2
 refine hK2 _ _ ?_
 clear hK2 K2
 obtain ⟨g4, cap4, cur4, hv4, hl4, hrow4, hc4, hc4', hcur⟩ := h4_2
 rw [hl] at hv4 hcur
 subst hv4
 have c31 := cell_of_row _ g4 31 _ _ _ hrow4
 rw [hcur 31 (by omega), ← hcc.out] at c31
 have f31 := frozen_of_row _ g4 31 _ _ hrow4
 have hst := cur_set hrow4 (by rw [hl]; exact hcur) 31 d (by omega)
 have hOs := (hO2).setCell (p := ⟨g4, 31, none⟩) (by show _ ≤ g4; have := hO1.size; omega) (.int .u8 (d : Int))
 have nz : g2_1 ≠ g4 := by have := lt_of_heap m2_1; omega
 have hz2 := (heap_setCell_other u2 ⟨g4, 31, none⟩ g2_1 (.int .u8 (d : Int)) nz).trans m2_1__2
 have hTs : Tab5 (u2.setCell ⟨g4, 31, none⟩ (.int .u8 (d : Int))) := hT2.setCell (by have := hT.size; have := hO1.size; show 6 < g4; omega)
 have HOS : Hid _ := hOs
 have HZ2 : Hid _ := hz2
 have HTS : Hid _ := hTs
 have HST : Hid _ := hst
 clear hOs hz2 hTs hst
 refine wp_seq_k fun KB hKB => ?_
 have HKB : Hid _ := hKB
 clear hKB
 go_wp2
 refine HKB.out _ _ ?_
 clear HKB KB
 have hO := HOS.out
 have hz := HZ2.out
 have hT9 := HTS.out
 have hb9 : Bts (l.set 31 d) (.slice (some ⟨g4, 0, none⟩) 32 cap4) (u2.setCell ⟨g4, 31, none⟩ (.int .u8 (d : Int))) := ⟨_, _, by rw [hl1], by rw [hl1]; rw [hl] at hc4; exact hc4, hc4', fun _ => ⟨g4, 0, rfl, bytesAt_cur HST.out.1 HST.out.2⟩⟩
 clear HOS HZ2 HTS HST c31 f31
 generalize u2.setCell ⟨g4, 31, none⟩ (.int .u8 (d : Int)) = uu at hO hz hT9 hb9 ⊢
 refine wp_seq_k fun K3 hK3 => ?_
 refine wp_plain_inv 6 (specs [Bts (l.set 31 d), Tup2 (El (y)) (Is (.int .i64 0)), Tup2 (El (y)) (Is (.int .i64 0)), El (y), Is (.int .i64 0), Box uu.heap.size (elc zeroE) 58]) (specs_stb ⟨Bts.stb _, Tup2.stb (El.stb _) (Is.stb _), Tup2.stb (El.stb _) (Is.stb _), El.stb _, Is.stb _, Box.stb _ _ _, trivial⟩) (by kernel_rfl) ?_ ?_
 ·refine ⟨fun a w hB hfr hdep => Step.plain rfl (dMove (R := Bts (l.set 31 d)) rfl (use (hfr 4 (by kernel_rfl)) ((Bts.stb _) _ _ _ hB hb9))),
   fun a w hB hfr hdep => Step.plain rfl (Does.call 66 #[(a.eval (.tmp 22))] (by kernel_rfl) (cReadY hy w (hdep 0 22 (by kernel_rfl)) hl1 hd1 hA)),
   fun a w hB hfr hdep => Step.plain rfl (dMove (R := Tup2 (El (y)) (Is (.int .i64 0))) rfl (hdep 1 23 (by kernel_rfl))),
   fun a w hB hfr hdep => Step.plain rfl (dExt0 rfl (hdep 2 21 (by kernel_rfl))),
   fun a w hB hfr hdep => Step.plain rfl (dExt1 rfl (hdep 2 21 (by kernel_rfl))),
   fun a w hB hfr hdep => Step.plain rfl (dAlloc27 hB.size rfl), trivial⟩
 intro u3 hb3
 simp only [List.take, List.drop, FinAll, Act.put, lA, lS, lZ]
 rintro v22_3 h22_3 v23_3 h23_3 v21_3 h21_3 _ ⟨e24_3, q24_3, rfl, x24_3⟩ _ rfl _ ⟨g5_3, rfl, l5_3, m5_3⟩
 refine wpList_store_row rfl 58 (.tmp 5) (.tmp 24) rfl _ (elc e24_3) rfl rfl 58 _ m5_3 info26 rfl (elc_one _) ?_
 have n5_3 := setRow_heap _ _ _ (elc e24_3) _ _ m5_3
 replace hb3 := setRow_below hb3 l5_3 (elc e24_3)
 generalize hw3_1 : u3.setRow g5_3 (elc e24_3) = u3_1 at n5_3 hb3  ⊢
 clear hw3_1 m5_3
 refine wpList_assign rfl rfl rfl ?_
 simp only [Act.put, Act.eval, Array.getD_eq_getD_getElem?, List.getElem?_toArray, List.getElem?_cons_succ, List.getElem?_cons_zero, Option.getD_some, lA, lS, lZ]
 have hO3 := (hO).trans (hb3.mono (hO).size)
 have hz__3 := block_below hb3 (lt_of_heap hz) hz
 have lwn5_3 := Nat.le_trans (hO).size l5_3
 have hT3 := Tab5.below hT9 hb3
 refine hK3 _ _ ?_
 clear hK3 K3
 refine wp_seq_k fun KO6 hKO6 => ?_
 refine wp_seq_k fun K4 hK4 => ?_
 refine wp_plain_inv 2 (specs [Is (.int .i64 0), Is (.bool false)]) (specs_stb ⟨Is.stb _, Is.stb _, trivial⟩) (by kernel_rfl) ?_ ?_
 ·refine ⟨fun a w hB hfr hdep => Step.plain rfl (dMove (R := Is (.int .i64 0)) rfl (hfr 6 (by kernel_rfl))),
   fun a w hB hfr hdep => Step.plain rfl (Does.run _ (run_binO rfl (hdep 0 26 (by kernel_rfl)) rfl (by kernel_rfl)) rfl), trivial⟩
 intro u4 hb4
 simp only [List.take, List.drop, FinAll, Act.put, lA, lS, lZ]
 rintro _ rfl _ rfl
 have hO4 := (hO3).trans (hb4.mono (hO3).size)
 have hz__4 := block_below hb4 (lt_of_heap hz__3) hz__3
 have n5_3__4 := block_below hb4 (lt_of_heap n5_3) n5_3
 have hT4 := Tab5.below hT3 hb4
 refine hK4 _ _ ?_
 clear hK4 K4
 refine wp_cond_false rfl ?_
 refine wp_skip ?_
 refine hKO6 _ _ ?_
 clear hKO6 KO6
 refine wp_seq_k fun K5 hK5 => ?_
 refine wp_plain_inv 6 (specs [El (y), Tup2 (El (r)) (Is (.bool true)), Tup2 (El (r)) (Is (.bool true)), El (r), Is (.bool true), Box u4.heap.size (elc zeroE) 58]) (specs_stb ⟨El.stb _, Tup2.stb (El.stb _) (Is.stb _), Tup2.stb (El.stb _) (Is.stb _), El.stb _, Is.stb _, Box.stb _ _ _, trivial⟩) (by kernel_rfl) ?_ ?_
 ·refine ⟨fun a w hB hfr hdep => Step.plain rfl (dLoadEl q24_3 x24_3 (block_below hB (lt_of_heap n5_3__4) n5_3__4) rfl (hfr 5 (by kernel_rfl)) (fun _ h => h)),
   fun a w hB hfr hdep => Step.plain rfl (Does.call 67 #[(a.eval (.tmp 30))] (by kernel_rfl) (cXWithT he hr hs w w (Tab5.below hT4 hB) (hdep 0 30 (by kernel_rfl)))),
   fun a w hB hfr hdep => Step.plain rfl (dMove (R := Tup2 (El (r)) (Is (.bool true))) rfl (hdep 1 31 (by kernel_rfl))),
   fun a w hB hfr hdep => Step.plain rfl (dExt0 rfl (hdep 2 29 (by kernel_rfl))),
   fun a w hB hfr hdep => Step.plain rfl (dExt1 rfl (hdep 2 29 (by kernel_rfl))),
   fun a w hB hfr hdep => Step.plain rfl (dAlloc27 hB.size rfl), trivial⟩
 intro u5 hb5
 simp only [List.take, List.drop, FinAll, Act.put, lA, lS, lZ]
 rintro v30_5 h30_5 v31_5 h31_5 v29_5 h29_5 _ ⟨e32_5, q32_5, rfl, x32_5⟩ _ rfl _ ⟨g7_5, rfl, l7_5, m7_5⟩
 refine wpList_store_row rfl 58 (.tmp 7) (.tmp 32) rfl _ (elc e32_5) rfl rfl 58 _ m7_5 info26 rfl (elc_one _) ?_
 have n7_5 := setRow_heap _ _ _ (elc e32_5) _ _ m7_5
 replace hb5 := setRow_below hb5 l7_5 (elc e32_5)
 generalize hw5_1 : u5.setRow g7_5 (elc e32_5) = u5_1 at n7_5 hb5  ⊢
 clear hw5_1 m7_5
 refine wpList_assign rfl rfl rfl ?_
 simp only [Act.put, Act.eval, Array.getD_eq_getD_getElem?, List.getElem?_toArray, List.getElem?_cons_succ, List.getElem?_cons_zero, Option.getD_some, lA, lS, lZ]
 have hO5 := (hO4).trans (hb5.mono (hO4).size)
 have hz__5 := block_below hb5 (lt_of_heap hz__4) hz__4
 have n5_3__5 := block_below hb5 (lt_of_heap n5_3__4) n5_3__4
 have lwn7_5 := Nat.le_trans (hO4).size l7_5
 have hT5 := Tab5.below hT4 hb5
 refine hK5 _ _ ?_
 clear hK5 K5
 refine wp_seq_k fun KO9 hKO9 => ?_
 refine wp_seq_k fun K6 hK6 => ?_
 refine wp_plain_inv 2 (specs [Is (.bool true), Is (.bool false)]) (specs_stb ⟨Is.stb _, Is.stb _, trivial⟩) (by kernel_rfl) ?_ ?_
 ·refine ⟨fun a w hB hfr hdep => Step.plain rfl (dMove (R := Is (.bool true)) rfl (hfr 8 (by kernel_rfl))),
   fun a w hB hfr hdep => Step.plain rfl (Does.run _ (run_notO rfl (hdep 0 34 (by kernel_rfl))) rfl), trivial⟩
 intro u6 hb6
 simp only [List.take, List.drop, FinAll, Act.put, lA, lS, lZ]
 rintro _ rfl _ rfl
 have hO6 := (hO5).trans (hb6.mono (hO5).size)
 have hz__6 := block_below hb6 (lt_of_heap hz__5) hz__5
 have n5_3__6 := block_below hb6 (lt_of_heap n5_3__5) n5_3__5
 have n7_5__6 := block_below hb6 (lt_of_heap n7_5) n7_5
 have hT6 := Tab5.below hT5 hb6
 refine hK6 _ _ ?_
 clear hK6 K6
 refine wp_cond_false rfl ?_
 refine wp_skip ?_
 refine hKO9 _ _ ?_
 clear hKO9 KO9
 have ca := (hO6.cell (p := ⟨gx, off + 31, none⟩) hgx).trans hca
 refine wp_seq_k fun KC hKC => ?_
 have HKC : Hid _ := hKC
 clear hKC
 go_wp2
 refine HKC.out _ _ ?_
 clear HKC KC
 refine wp_seq_k fun KO12 hKO12 => ?_
 refine wp_seq_k fun K7 hK7 => ?_
 refine wp_plain_inv 4 (specs [El (r), Is (.bool (!bb)), Is (.bool bb), Is (.bool true)]) (specs_stb ⟨El.stb _, Is.stb _, Is.stb _, Is.stb _, trivial⟩) (by kernel_rfl) ?_ ?_
 ·refine ⟨fun a w hB hfr hdep => Step.plain rfl (dLoadEl q32_5 x32_5 (block_below hB (lt_of_heap n7_5__6) n7_5__6) rfl (hfr 7 (by kernel_rfl)) (fun _ h => h)),
   fun a w hB hfr hdep => Step.plain rfl (Does.call 68 #[(a.eval (.tmp 42))] (by kernel_rfl) (cOddB ho1 w w (hdep 0 42 (by kernel_rfl)))),
   fun a w hB hfr hdep => Step.plain rfl (dMove (R := Is (.bool bb)) rfl (hfr 9 (by kernel_rfl))),
   fun a w hB hfr hdep => Step.plain rfl (Does.run _ (run_neqD rfl (hdep 1 43 (by kernel_rfl)) (hdep 2 44 (by kernel_rfl))) rfl), trivial⟩
 intro u7 hb7
 simp only [List.take, List.drop, FinAll, Act.put, lA, lS, lZ]
 rintro v42_7 h42_7 _ rfl _ rfl _ rfl
 have hO7 := (hO6).trans (hb7.mono (hO6).size)
 have hz__7 := block_below hb7 (lt_of_heap hz__6) hz__6
 have n5_3__7 := block_below hb7 (lt_of_heap n5_3__6) n5_3__6
 have n7_5__7 := block_below hb7 (lt_of_heap n7_5__6) n7_5__6
 have hT7 := Tab5.below hT6 hb7
 refine hK7 _ _ ?_
 clear hK7 K7
 refine wp_cond_true rfl ?_
 have q2 : g2_1 ≠ g7_5 := by have := lt_of_heap hz; have := hb3.size; have := hb4.size; have := hb5.size; have := hb6.size; omega
 have q5 : g5_3 ≠ g7_5 := by have := lt_of_heap n5_3; have := hb3.size; have := hb4.size; have := hb5.size; have := hb6.size; omega
 have n5 : 6 < g7_5 := by have := hT9.size; have := hb3.size; have := hb4.size; have := hb5.size; have := hb6.size; omega
 refine wp_plain_inv 2 (specs [El (r), El (0 - (r))]) (specs_stb ⟨El.stb _, El.stb _, trivial⟩) (by kernel_rfl) ?_ ?_
 ·refine ⟨fun a w hB hfr hdep => Step.plain rfl (dLoadEl q32_5 x32_5 (block_below hB (lt_of_heap n7_5__7) n7_5__7) rfl (hfr 7 (by kernel_rfl)) (fun _ h => h)),
   fun a w hB hfr hdep => Step.plain rfl (Does.call 69 #[(a.eval (.tmp 46))] (by kernel_rfl) (cNegEl w w (hdep 0 46 (by kernel_rfl)))), trivial⟩
 intro u8 hb8
 simp only [List.take, List.drop, FinAll, Act.put, lA, lS, lZ]
 rintro v46_8 h46_8 _ ⟨e47_8, q47_8, rfl, x47_8⟩
 have on7_5__7 := block_below hb8 (lt_of_heap n7_5__7) n7_5__7
 refine wpList_store_row rfl 58 (.tmp 7) (.tmp 47) rfl _ (elc e47_8) rfl rfl 58 _ on7_5__7 info26 rfl (elc_one _) ?_
 have n7_8 := setRow_heap _ _ _ (elc e47_8) _ _ on7_5__7
 have hO8 := setRow_below (hO7.trans (hb8.mono (hO7).size)) lwn7_5 (elc e47_8)
 have hz__8 := (setRow_other u8 g7_5 g2_1 (elc e47_8) q2).trans (block_below hb8 (lt_of_heap hz__7) hz__7)
 have n5_3__8 := (setRow_other u8 g7_5 g5_3 (elc e47_8) q5).trans (block_below hb8 (lt_of_heap n5_3__7) n5_3__7)
 have hT8 : Tab5 (u8.setRow g7_5 (elc e47_8)) := hT7.setRow hb8 (n5)
 generalize u8.setRow g7_5 (elc e47_8) = u8_s at hO8 hz__8 n5_3__8 n7_8 hT8 ⊢
 refine hKO12 _ _ ?_
 clear hKO12 KO12
 refine wp_seq_k fun KO14 hKO14 => ?_
 refine wp_seq_k fun K9 hK9 => ?_
 refine wp_plain_inv 4 (specs [El (0 - (r)), Is (.bool bb), Is (.bool bb), Is (.bool false)]) (specs_stb ⟨El.stb _, Is.stb _, Is.stb _, Is.stb _, trivial⟩) (by kernel_rfl) ?_ ?_
 ·refine ⟨fun a w hB hfr hdep => Step.plain rfl (dLoadEl q47_8 x47_8 (block_below hB (lt_of_heap n7_8) n7_8) rfl (hfr 7 (by kernel_rfl)) (fun _ h => h)),
   fun a w hB hfr hdep => Step.plain rfl (Does.call 68 #[(a.eval (.tmp 48))] (by kernel_rfl) (cOddB ho2 w w (hdep 0 48 (by kernel_rfl)))),
   fun a w hB hfr hdep => Step.plain rfl (dMove (R := Is (.bool bb)) rfl (hfr 9 (by kernel_rfl))),
   fun a w hB hfr hdep => Step.plain rfl (Does.run _ (run_neqS rfl (hdep 1 49 (by kernel_rfl)) (hdep 2 50 (by kernel_rfl))) rfl), trivial⟩
 intro u9 hb9
 simp only [List.take, List.drop, FinAll, Act.put, lA, lS, lZ]
 rintro v48_9 h48_9 _ rfl _ rfl _ rfl
 have hO9 := (hO8).trans (hb9.mono (hO8).size)
 have hz__9 := block_below hb9 (lt_of_heap hz__8) hz__8
 have n5_3__9 := block_below hb9 (lt_of_heap n5_3__8) n5_3__8
 have n7_8__9 := block_below hb9 (lt_of_heap n7_8) n7_8
 have hT9 := Tab5.below hT8 hb9
 refine hK9 _ _ ?_
 clear hK9 K9
 refine wp_cond_false rfl ?_
 refine wp_skip ?_
 refine hKO14 _ _ ?_
 clear hKO14 KO14
 refine wp_seq_k fun K10 hK10 => ?_
 refine wp_plain_inv 3 (specs [El (0 - (r)), El (y), Pt4 (0 - (r)) (y) (1) ((0 - (r)) * (y))]) (specs_stb ⟨El.stb _, El.stb _, Pt4.stb _ _ _ _, trivial⟩) (by kernel_rfl) ?_ ?_
 ·refine ⟨fun a w hB hfr hdep => Step.plain rfl (dLoadEl q47_8 x47_8 (block_below hB (lt_of_heap n7_8__9) n7_8__9) rfl (hfr 7 (by kernel_rfl)) (fun _ h => h)),
   fun a w hB hfr hdep => Step.plain rfl (dLoadEl q24_3 x24_3 (block_below hB (lt_of_heap n5_3__9) n5_3__9) rfl (hfr 5 (by kernel_rfl)) (fun _ h => h)),
   fun a w hB hfr hdep => Step.plain rfl (Does.call 70 #[(a.eval (.tmp 53)), (a.eval (.tmp 54))] (by kernel_rfl) (cOfPair w w w (hdep 0 53 (by kernel_rfl)) (hdep 1 54 (by kernel_rfl)))), trivial⟩
 intro u10 hb10
 simp only [List.take, List.drop, FinAll, Act.put, lA, lS, lZ]
 rintro v53_10 h53_10 v54_10 h54_10 _ ⟨e55_10, rfl, x55_10⟩
 have ohz__9 := block_below hb10 (lt_of_heap hz__9) hz__9
 refine wpList_store_row rfl 60 (.tmp 2) (.tmp 55) rfl _ (e55_10) rfl rfl 60 _ ohz__9 (by rw [(Pt4.cells x55_10).1]; exact info29) (by rw [(Pt4.cells x55_10).1]; rfl) (Pt4.cells x55_10).2 ?_
 refine wpList_assign rfl rfl rfl ?_
 simp only [Act.put, Act.eval, lA, lS, lZ]
 have n2_10 := setRow_heap _ _ _ (e55_10) _ _ ohz__9
 have hO10 := setRow_below (hO9.trans (hb10.mono (hO9).size)) lwm2_1 (e55_10)
 have hpp : Rep (0 - (r)) (y) (1) ((0 - (r)) * (y)) p := by have := rep_aff p; rw [hpx, hpy] at this; exact this
 refine hK10 _ _ ?_
 clear hK10 K10
 refine wp_ret ?_
 refine bodyPost_ret (v := .tuple #[.agg (e55_10), .int .i64 0]) ?_ rfl ⟨_, rfl, hO10, ⟨_, _, rfl, ⟨_, rfl, _, _, _, _, x55_10, hpp⟩, rfl⟩⟩
 exact results_cell_tmp Tryz.results30 _ _ _ 60 _ (0, 0) _ _ rfl rfl n2_10 Tryz.underlying60 rfl (by first | exact info26 | exact info29 | exact info35 | (rw [(Pt4.cells (by assumption)).1]; exact info29) | (rw [cellsP_size (by assumption)]; exact info29))
theorem readCE (w : World) (hT : Tab5 w) {l : List Nat} {gx off cap c d : Nat} {bb : Bool} {e : Nat} (he : valD tab3.reverse = e) (hb : Bts l (.slice (some ⟨gx, off, none⟩) 32 cap) w) (hl : l.length = 32) (hcc : Hid (c = l.getD 31 0)) (hc256 : c < 256) (han : bits .andNot .u8 (c : Int) 128 = (d : Int)) (hbb : decide (128 ≤ c) = bb) (hl1 : (l.set 31 d).length = 32) (hd1 : Dig (l.set 31 d))
  (hgx : gx < w.heap.size) (hca : w.cell? ⟨gx, off + 31, none⟩ = some (.int .u8 (c : Int))) {y r : Fe} (hy : fe (valD (l.set 31 d)) = y) (hA : valD (l.set 31 d) < pp) (hr : rootOf e (av y) = r) (hs : r * r = av y) (ho1 : decide (r.val % 2 = 1) = !bb) (ho2 : decide ((0 - r).val % 2 = 1) = !bb) :
  Ret 30 #[.slice (some ⟨gx, off, none⟩) 32 cap] w (Tup2 (Is (.agg (ptc zeroE zeroE zeroE zeroE))) (Is (.int .i64 2))) := by
 unfold Ret
 have hand := and128 c hc256
 rw [hbb] at hand
 clear hbb
 have h32 : ((32 : Int) != 32) = false := rfl
 have hO0 : Below w.heap.size w w := Below.refl _ _
 go_enter Tryz.func30, Tryz.ntmps30
 refine wp_seq_k fun K1 hK1 => ?_
 refine wp_plain_inv 2 (specs [Box w.heap.size (ptc zeroE zeroE zeroE zeroE) 60, Is (.int .i64 0)]) (specs_stb ⟨Box.stb _ _ _, Is.stb _, trivial⟩) (by kernel_rfl) ?_ ?_
 ·refine ⟨fun a w hB hfr hdep => Step.plain rfl (dAlloc29 hB.size rfl),
   fun a w hB hfr hdep => Step.plain rfl (dAssign (R := Is (.int .i64 0)) rfl rfl), trivial⟩
 intro u1 hb1
 simp only [List.take, List.drop, FinAll, Act.put, lA, lS, lZ]
 rintro _ ⟨g2_1, rfl, l2_1, m2_1⟩ _ rfl
 have hO1 := (hO0).trans (hb1.mono (hO0).size)
 have lwm2_1 := Nat.le_trans (hO0).size l2_1
 have hT1 := Tab5.below hT hb1
 refine hK1 _ _ ?_
 clear hK1 K1
 refine wp_seq_k fun KA hKA => ?_
 have HKA : Hid _ := hKA
 clear hKA
 go_wp2
 refine HKA.out _ _ ?_
 clear HKA KA
 refine wp_seq_k fun K2 hK2 => ?_
 refine wp_plain_inv 3 (specs [Is (.slice (some ⟨gx, off, none⟩) 32 cap), OwnC u1.heap.size l, OwnC u1.heap.size l]) (specs_stb ⟨Is.stb _, OwnC.stb _ _, OwnC.stb _ _, trivial⟩) (by kernel_rfl) ?_ ?_
 ·refine ⟨fun a w hB hfr hdep => Step.plain rfl (dMove (R := Is (.slice (some ⟨gx, off, none⟩) 32 cap)) rfl (hfr 0 (by kernel_rfl))),
   fun a w hB hfr hdep => Step.plain rfl (Does.call 65 #[(a.eval (.tmp 14))] (by kernel_rfl) (ownCLo hB.size (cloneIs w (hdep 0 14 (by kernel_rfl)) (Bts.stb _ _ _ _ hB (Bts.stb _ _ _ _ hO1 hb)) hl))),
   fun a w hB hfr hdep => Step.plain rfl (dAssign (R := OwnC u1.heap.size l) rfl (hdep 1 15 (by kernel_rfl))), trivial⟩
 intro u2 hb2
 simp only [List.take, List.drop, FinAll, Act.put, lA, lS, lZ]
 rintro _ rfl v15_2 h15_2 v4_2 h4_2
 have hO2 := (hO1).trans (hb2.mono (hO1).size)
 have m2_1__2 := block_below hb2 (lt_of_heap m2_1) m2_1
 have hT2 := Tab5.below hT1 hb2
 refine hK2 _ _ ?_
 clear hK2 K2
 obtain ⟨g4, cap4, cur4, hv4, hl4, hrow4, hc4, hc4', hcur⟩ := h4_2
 rw [hl] at hv4 hcur
 subst hv4
 have c31 := cell_of_row _ g4 31 _ _ _ hrow4
 rw [hcur 31 (by omega), ← hcc.out] at c31
 have f31 := frozen_of_row _ g4 31 _ _ hrow4
 have hst := cur_set hrow4 (by rw [hl]; exact hcur) 31 d (by omega)
 have hOs := (hO2).setCell (p := ⟨g4, 31, none⟩) (by show _ ≤ g4; have := hO1.size; omega) (.int .u8 (d : Int))
 have nz : g2_1 ≠ g4 := by have := lt_of_heap m2_1; omega
 have hz2 := (heap_setCell_other u2 ⟨g4, 31, none⟩ g2_1 (.int .u8 (d : Int)) nz).trans m2_1__2
 have hTs : Tab5 (u2.setCell ⟨g4, 31, none⟩ (.int .u8 (d : Int))) := hT2.setCell (by have := hT.size; have := hO1.size; show 6 < g4; omega)
 have HOS : Hid _ := hOs
 have HZ2 : Hid _ := hz2
 have HTS : Hid _ := hTs
 have HST : Hid _ := hst
 clear hOs hz2 hTs hst
 refine wp_seq_k fun KB hKB => ?_
 have HKB : Hid _ := hKB
 clear hKB
 go_wp2
 refine HKB.out _ _ ?_
 clear HKB KB
 have hO := HOS.out
 have hz := HZ2.out
 have hT9 := HTS.out
 have hb9 : Bts (l.set 31 d) (.slice (some ⟨g4, 0, none⟩) 32 cap4) (u2.setCell ⟨g4, 31, none⟩ (.int .u8 (d : Int))) := ⟨_, _, by rw [hl1], by rw [hl1]; rw [hl] at hc4; exact hc4, hc4', fun _ => ⟨g4, 0, rfl, bytesAt_cur HST.out.1 HST.out.2⟩⟩
 clear HOS HZ2 HTS HST c31 f31
 generalize u2.setCell ⟨g4, 31, none⟩ (.int .u8 (d : Int)) = uu at hO hz hT9 hb9 ⊢
 refine wp_seq_k fun K3 hK3 => ?_
 refine wp_plain_inv 6 (specs [Bts (l.set 31 d), Tup2 (El (y)) (Is (.int .i64 0)), Tup2 (El (y)) (Is (.int .i64 0)), El (y), Is (.int .i64 0), Box uu.heap.size (elc zeroE) 58]) (specs_stb ⟨Bts.stb _, Tup2.stb (El.stb _) (Is.stb _), Tup2.stb (El.stb _) (Is.stb _), El.stb _, Is.stb _, Box.stb _ _ _, trivial⟩) (by kernel_rfl) ?_ ?_
 ·refine ⟨fun a w hB hfr hdep => Step.plain rfl (dMove (R := Bts (l.set 31 d)) rfl (use (hfr 4 (by kernel_rfl)) ((Bts.stb _) _ _ _ hB hb9))),
   fun a w hB hfr hdep => Step.plain rfl (Does.call 66 #[(a.eval (.tmp 22))] (by kernel_rfl) (cReadY hy w (hdep 0 22 (by kernel_rfl)) hl1 hd1 hA)),
   fun a w hB hfr hdep => Step.plain rfl (dMove (R := Tup2 (El (y)) (Is (.int .i64 0))) rfl (hdep 1 23 (by kernel_rfl))),
   fun a w hB hfr hdep => Step.plain rfl (dExt0 rfl (hdep 2 21 (by kernel_rfl))),
   fun a w hB hfr hdep => Step.plain rfl (dExt1 rfl (hdep 2 21 (by kernel_rfl))),
   fun a w hB hfr hdep => Step.plain rfl (dAlloc27 hB.size rfl), trivial⟩
 intro u3 hb3
 simp only [List.take, List.drop, FinAll, Act.put, lA, lS, lZ]
 rintro v22_3 h22_3 v23_3 h23_3 v21_3 h21_3 _ ⟨e24_3, q24_3, rfl, x24_3⟩ _ rfl _ ⟨g5_3, rfl, l5_3, m5_3⟩
 refine wpList_store_row rfl 58 (.tmp 5) (.tmp 24) rfl _ (elc e24_3) rfl rfl 58 _ m5_3 info26 rfl (elc_one _) ?_
 have n5_3 := setRow_heap _ _ _ (elc e24_3) _ _ m5_3
 replace hb3 := setRow_below hb3 l5_3 (elc e24_3)
 generalize hw3_1 : u3.setRow g5_3 (elc e24_3) = u3_1 at n5_3 hb3  ⊢
 clear hw3_1 m5_3
 refine wpList_assign rfl rfl rfl ?_
 simp only [Act.put, Act.eval, Array.getD_eq_getD_getElem?, List.getElem?_toArray, List.getElem?_cons_succ, List.getElem?_cons_zero, Option.getD_some, lA, lS, lZ]
 have hO3 := (hO).trans (hb3.mono (hO).size)
 have hz__3 := block_below hb3 (lt_of_heap hz) hz
 have lwn5_3 := Nat.le_trans (hO).size l5_3
 have hT3 := Tab5.below hT9 hb3
 refine hK3 _ _ ?_
 clear hK3 K3
 refine wp_seq_k fun KO6 hKO6 => ?_
 refine wp_seq_k fun K4 hK4 => ?_
 refine wp_plain_inv 2 (specs [Is (.int .i64 0), Is (.bool false)]) (specs_stb ⟨Is.stb _, Is.stb _, trivial⟩) (by kernel_rfl) ?_ ?_
 ·refine ⟨fun a w hB hfr hdep => Step.plain rfl (dMove (R := Is (.int .i64 0)) rfl (hfr 6 (by kernel_rfl))),
   fun a w hB hfr hdep => Step.plain rfl (Does.run _ (run_binO rfl (hdep 0 26 (by kernel_rfl)) rfl (by kernel_rfl)) rfl), trivial⟩
 intro u4 hb4
 simp only [List.take, List.drop, FinAll, Act.put, lA, lS, lZ]
 rintro _ rfl _ rfl
 have hO4 := (hO3).trans (hb4.mono (hO3).size)
 have hz__4 := block_below hb4 (lt_of_heap hz__3) hz__3
 have n5_3__4 := block_below hb4 (lt_of_heap n5_3) n5_3
 have hT4 := Tab5.below hT3 hb4
 refine hK4 _ _ ?_
 clear hK4 K4
 refine wp_cond_false rfl ?_
 refine wp_skip ?_
 refine hKO6 _ _ ?_
 clear hKO6 KO6
 refine wp_seq_k fun K5 hK5 => ?_
 refine wp_plain_inv 6 (specs [El (y), Tup2 (El (r)) (Is (.bool true)), Tup2 (El (r)) (Is (.bool true)), El (r), Is (.bool true), Box u4.heap.size (elc zeroE) 58]) (specs_stb ⟨El.stb _, Tup2.stb (El.stb _) (Is.stb _), Tup2.stb (El.stb _) (Is.stb _), El.stb _, Is.stb _, Box.stb _ _ _, trivial⟩) (by kernel_rfl) ?_ ?_
 ·refine ⟨fun a w hB hfr hdep => Step.plain rfl (dLoadEl q24_3 x24_3 (block_below hB (lt_of_heap n5_3__4) n5_3__4) rfl (hfr 5 (by kernel_rfl)) (fun _ h => h)),
   fun a w hB hfr hdep => Step.plain rfl (Does.call 67 #[(a.eval (.tmp 30))] (by kernel_rfl) (cXWithT he hr hs w w (Tab5.below hT4 hB) (hdep 0 30 (by kernel_rfl)))),
   fun a w hB hfr hdep => Step.plain rfl (dMove (R := Tup2 (El (r)) (Is (.bool true))) rfl (hdep 1 31 (by kernel_rfl))),
   fun a w hB hfr hdep => Step.plain rfl (dExt0 rfl (hdep 2 29 (by kernel_rfl))),
   fun a w hB hfr hdep => Step.plain rfl (dExt1 rfl (hdep 2 29 (by kernel_rfl))),
   fun a w hB hfr hdep => Step.plain rfl (dAlloc27 hB.size rfl), trivial⟩
 intro u5 hb5
 simp only [List.take, List.drop, FinAll, Act.put, lA, lS, lZ]
 rintro v30_5 h30_5 v31_5 h31_5 v29_5 h29_5 _ ⟨e32_5, q32_5, rfl, x32_5⟩ _ rfl _ ⟨g7_5, rfl, l7_5, m7_5⟩
 refine wpList_store_row rfl 58 (.tmp 7) (.tmp 32) rfl _ (elc e32_5) rfl rfl 58 _ m7_5 info26 rfl (elc_one _) ?_
 have n7_5 := setRow_heap _ _ _ (elc e32_5) _ _ m7_5
 replace hb5 := setRow_below hb5 l7_5 (elc e32_5)
 generalize hw5_1 : u5.setRow g7_5 (elc e32_5) = u5_1 at n7_5 hb5  ⊢
 clear hw5_1 m7_5
 refine wpList_assign rfl rfl rfl ?_
 simp only [Act.put, Act.eval, Array.getD_eq_getD_getElem?, List.getElem?_toArray, List.getElem?_cons_succ, List.getElem?_cons_zero, Option.getD_some, lA, lS, lZ]
 have hO5 := (hO4).trans (hb5.mono (hO4).size)
 have hz__5 := block_below hb5 (lt_of_heap hz__4) hz__4
 have n5_3__5 := block_below hb5 (lt_of_heap n5_3__4) n5_3__4
 have lwn7_5 := Nat.le_trans (hO4).size l7_5
 have hT5 := Tab5.below hT4 hb5
 refine hK5 _ _ ?_
 clear hK5 K5
 refine wp_seq_k fun KO9 hKO9 => ?_
 refine wp_seq_k fun K6 hK6 => ?_
 refine wp_plain_inv 2 (specs [Is (.bool true), Is (.bool false)]) (specs_stb ⟨Is.stb _, Is.stb _, trivial⟩) (by kernel_rfl) ?_ ?_
 ·refine ⟨fun a w hB hfr hdep => Step.plain rfl (dMove (R := Is (.bool true)) rfl (hfr 8 (by kernel_rfl))),
   fun a w hB hfr hdep => Step.plain rfl (Does.run _ (run_notO rfl (hdep 0 34 (by kernel_rfl))) rfl), trivial⟩
 intro u6 hb6
 simp only [List.take, List.drop, FinAll, Act.put, lA, lS, lZ]
 rintro _ rfl _ rfl
 have hO6 := (hO5).trans (hb6.mono (hO5).size)
 have hz__6 := block_below hb6 (lt_of_heap hz__5) hz__5
 have n5_3__6 := block_below hb6 (lt_of_heap n5_3__5) n5_3__5
 have n7_5__6 := block_below hb6 (lt_of_heap n7_5) n7_5
 have hT6 := Tab5.below hT5 hb6
 refine hK6 _ _ ?_
 clear hK6 K6
 refine wp_cond_false rfl ?_
 refine wp_skip ?_
 refine hKO9 _ _ ?_
 clear hKO9 KO9
 have ca := (hO6.cell (p := ⟨gx, off + 31, none⟩) hgx).trans hca
 refine wp_seq_k fun KC hKC => ?_
 have HKC : Hid _ := hKC
 clear hKC
 go_wp2
 refine HKC.out _ _ ?_
 clear HKC KC
 refine wp_seq_k fun KO12 hKO12 => ?_
 refine wp_seq_k fun K7 hK7 => ?_
 refine wp_plain_inv 4 (specs [El (r), Is (.bool (!bb)), Is (.bool bb), Is (.bool true)]) (specs_stb ⟨El.stb _, Is.stb _, Is.stb _, Is.stb _, trivial⟩) (by kernel_rfl) ?_ ?_
 ·refine ⟨fun a w hB hfr hdep => Step.plain rfl (dLoadEl q32_5 x32_5 (block_below hB (lt_of_heap n7_5__6) n7_5__6) rfl (hfr 7 (by kernel_rfl)) (fun _ h => h)),
   fun a w hB hfr hdep => Step.plain rfl (Does.call 68 #[(a.eval (.tmp 42))] (by kernel_rfl) (cOddB ho1 w w (hdep 0 42 (by kernel_rfl)))),
   fun a w hB hfr hdep => Step.plain rfl (dMove (R := Is (.bool bb)) rfl (hfr 9 (by kernel_rfl))),
   fun a w hB hfr hdep => Step.plain rfl (Does.run _ (run_neqD rfl (hdep 1 43 (by kernel_rfl)) (hdep 2 44 (by kernel_rfl))) rfl), trivial⟩
 intro u7 hb7
 simp only [List.take, List.drop, FinAll, Act.put, lA, lS, lZ]
 rintro v42_7 h42_7 _ rfl _ rfl _ rfl
 have hO7 := (hO6).trans (hb7.mono (hO6).size)
 have hz__7 := block_below hb7 (lt_of_heap hz__6) hz__6
 have n5_3__7 := block_below hb7 (lt_of_heap n5_3__6) n5_3__6
 have n7_5__7 := block_below hb7 (lt_of_heap n7_5__6) n7_5__6
 have hT7 := Tab5.below hT6 hb7
 refine hK7 _ _ ?_
 clear hK7 K7
 refine wp_cond_true rfl ?_
 have q2 : g2_1 ≠ g7_5 := by have := lt_of_heap hz; have := hb3.size; have := hb4.size; have := hb5.size; have := hb6.size; omega
 have q5 : g5_3 ≠ g7_5 := by have := lt_of_heap n5_3; have := hb3.size; have := hb4.size; have := hb5.size; have := hb6.size; omega
 have n5 : 6 < g7_5 := by have := hT9.size; have := hb3.size; have := hb4.size; have := hb5.size; have := hb6.size; omega
 refine wp_plain_inv 2 (specs [El (r), El (0 - (r))]) (specs_stb ⟨El.stb _, El.stb _, trivial⟩) (by kernel_rfl) ?_ ?_
 ·refine ⟨fun a w hB hfr hdep => Step.plain rfl (dLoadEl q32_5 x32_5 (block_below hB (lt_of_heap n7_5__7) n7_5__7) rfl (hfr 7 (by kernel_rfl)) (fun _ h => h)),
   fun a w hB hfr hdep => Step.plain rfl (Does.call 69 #[(a.eval (.tmp 46))] (by kernel_rfl) (cNegEl w w (hdep 0 46 (by kernel_rfl)))), trivial⟩
 intro u8 hb8
 simp only [List.take, List.drop, FinAll, Act.put, lA, lS, lZ]
 rintro v46_8 h46_8 _ ⟨e47_8, q47_8, rfl, x47_8⟩
 have on7_5__7 := block_below hb8 (lt_of_heap n7_5__7) n7_5__7
 refine wpList_store_row rfl 58 (.tmp 7) (.tmp 47) rfl _ (elc e47_8) rfl rfl 58 _ on7_5__7 info26 rfl (elc_one _) ?_
 have n7_8 := setRow_heap _ _ _ (elc e47_8) _ _ on7_5__7
 have hO8 := setRow_below (hO7.trans (hb8.mono (hO7).size)) lwn7_5 (elc e47_8)
 have hz__8 := (setRow_other u8 g7_5 g2_1 (elc e47_8) q2).trans (block_below hb8 (lt_of_heap hz__7) hz__7)
 have n5_3__8 := (setRow_other u8 g7_5 g5_3 (elc e47_8) q5).trans (block_below hb8 (lt_of_heap n5_3__7) n5_3__7)
 have hT8 : Tab5 (u8.setRow g7_5 (elc e47_8)) := hT7.setRow hb8 (n5)
 generalize u8.setRow g7_5 (elc e47_8) = u8_s at hO8 hz__8 n5_3__8 n7_8 hT8 ⊢
 refine hKO12 _ _ ?_
 clear hKO12 KO12
 refine wp_seq_k fun KO14 hKO14 => ?_
 refine wp_seq_k fun K9 hK9 => ?_
 refine wp_plain_inv 4 (specs [El (0 - (r)), Is (.bool (!bb)), Is (.bool bb), Is (.bool true)]) (specs_stb ⟨El.stb _, Is.stb _, Is.stb _, Is.stb _, trivial⟩) (by kernel_rfl) ?_ ?_
 ·refine ⟨fun a w hB hfr hdep => Step.plain rfl (dLoadEl q47_8 x47_8 (block_below hB (lt_of_heap n7_8) n7_8) rfl (hfr 7 (by kernel_rfl)) (fun _ h => h)),
   fun a w hB hfr hdep => Step.plain rfl (Does.call 68 #[(a.eval (.tmp 48))] (by kernel_rfl) (cOddB ho2 w w (hdep 0 48 (by kernel_rfl)))),
   fun a w hB hfr hdep => Step.plain rfl (dMove (R := Is (.bool bb)) rfl (hfr 9 (by kernel_rfl))),
   fun a w hB hfr hdep => Step.plain rfl (Does.run _ (run_neqD rfl (hdep 1 49 (by kernel_rfl)) (hdep 2 50 (by kernel_rfl))) rfl), trivial⟩
 intro u9 hb9
 simp only [List.take, List.drop, FinAll, Act.put, lA, lS, lZ]
 rintro v48_9 h48_9 _ rfl _ rfl _ rfl
 have hO9 := (hO8).trans (hb9.mono (hO8).size)
 have hz__9 := block_below hb9 (lt_of_heap hz__8) hz__8
 have n5_3__9 := block_below hb9 (lt_of_heap n5_3__8) n5_3__8
 have n7_8__9 := block_below hb9 (lt_of_heap n7_8) n7_8
 have hT9 := Tab5.below hT8 hb9
 refine hK9 _ _ ?_
 clear hK9 K9
 refine wp_cond_true rfl ?_
 refine wp_seq_k fun K10 hK10 => ?_
 refine wp_plain_inv 1 (specs [Is (.agg (ptc zeroE zeroE zeroE zeroE))]) (specs_stb ⟨Is.stb _, trivial⟩) (by kernel_rfl) ?_ ?_
 ·refine ⟨fun a w hB hfr hdep => Step.plain rfl (Does.run _ (bu29z rfl) rfl), trivial⟩
 intro u10 hb10
 simp only [List.take, List.drop, FinAll, Act.put, lA, lS, lZ]
 rintro _ rfl
 have ohz__9 := block_below hb10 (lt_of_heap hz__9) hz__9
 refine wpList_store_row rfl 60 (.tmp 2) (.tmp 52) rfl _ (ptc zeroE zeroE zeroE zeroE) rfl rfl 60 _ ohz__9 info29 rfl (ptc_one _ _ _ _) ?_
 refine wpList_assign rfl rfl rfl ?_
 simp only [Act.put, Act.eval, lA, lS, lZ]
 have n2_10 := setRow_heap _ _ _ (ptc zeroE zeroE zeroE zeroE) _ _ ohz__9
 have hO10 := setRow_below (hO9.trans (hb10.mono (hO9).size)) lwm2_1 (ptc zeroE zeroE zeroE zeroE)
 refine hK10 _ _ ?_
 clear hK10 K10
 refine wp_ret ?_
 simp only [Exit.then]
 refine bodyPost_ret (v := .tuple #[.agg (ptc zeroE zeroE zeroE zeroE), .int .i64 2]) ?_ rfl ⟨_, rfl, hO10, ⟨_, _, rfl, rfl, rfl⟩⟩
 exact results_cell_tmp Tryz.results30 _ _ _ 60 _ (0, 0) _ _ rfl rfl n2_10 Tryz.underlying60 rfl (by first | exact info26 | exact info29 | exact info35 | (rw [(Pt4.cells (by assumption)).1]; exact info29) | (rw [cellsP_size (by assumption)]; exact info29))
end Go.Proofs.YtabgihjffjlfiaaGreatDoor
