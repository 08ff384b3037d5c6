/-
  The walk of digest, at words of 64 bits.
-/
import Derived.Test.YtomfnkbghlpkeaaDoorF64
import Derived.Test.YtomfnkbghlpkeaaDoorMoves
set_option linter.unusedVariables false
namespace Go.Proofs.YtomfnkbghlpkeaaDoor
open Go.RowKit Go.Sort Go.BigFrame
set_option maxRecDepth 100000
set_option maxHeartbeats 800000
def RelD64 (w : World) (l : List Nat) (wr : World) : Prop :=
  Below w.heap.size w wr ∧ wr.heap[w.heap.size]? = some (.cells shpA64 33 (0, 0)) ∧ wr.heap[w.heap.size + 1]? = some (.cells (ints .u64 l) 41 (0, 0))
theorem RelD64.start (w : World) : RelD64 w (List.replicate 8 0) ((w.alloc (.cells shpA64 33)).alloc (.cells z8_64 41)) :=
  ⟨below2 _ _ _, heap_alloc2_old _ _ _, heap_alloc2_new _ _ _⟩
theorem RelD64.on {w wr w1 : World} {l : List Nat} (h : RelD64 w l wr) (hb : Below wr.heap.size wr w1) : RelD64 w l w1 :=
  ⟨h.1.trans (hb.mono h.1.size), block_below hb (lt_of_heap h.2.1) h.2.1, block_below hb (lt_of_heap h.2.2) h.2.2⟩
theorem RelD64.store {w wr : World} {l : List Nat} (h : RelD64 w l wr) (j v : Nat) : RelD64 w (l.set j v) (wr.setCell ⟨w.heap.size + 1, j, none⟩ (.int .u64 (v : Int))) :=
  ⟨h.1.setCell (by simp) _, by rw [heap_setCell_other _ _ _ _ (by simp)]; exact h.2.1, set_ints h.2.2 j v⟩
theorem RelD64.setRow {w wr : World} {l : List Nat} (h : RelD64 w l wr) (l' : List Nat) : RelD64 w l' (wr.setRow (w.heap.size + 1) (ints .u64 l')) :=
  ⟨setRow_below h.1 (by omega) _, (setRow_other _ _ _ _ (by omega)).trans h.2.1, setRow_heap _ _ _ _ _ _ h.2.2⟩
theorem initN_lt64 (hs : List Nat) (h : ∀ j, hs.getD j 0 < 18446744073709551616) : ∀ k j, (initN 64 hs k).getD j 0 < 18446744073709551616
  | 0, j => by simp only [initN, List.getD_eq_getElem?_getD, List.getElem?_replicate]; split <;> simp
  | k + 1, j => getD_set_lt (initN_lt64 hs h k) (by rw [Nat.shiftRight_eq_div_pow]; have := h k; omega) j
theorem takeBlocks64 (st : List Nat) (a : Option Addr) (len cap : Nat) (bs ks : List Nat) (w : World) (hst : st.length = 8) (hsl : ∀ j, st.getD j 0 < 18446744073709551616) (hlen0 : bs.length = len) (hb256 : ∀ j, bs.getD j 0 < 256) (hcap : len ≤ cap) (hcap2 : cap ≤ 9223372036854775807) (hlen9 : len ≤ 100000000000000)
    (hv : View w a bs) (hkl : ks.length = 80) (hkb : ∀ j, ks.getD j 0 < 18446744073709551616) (hK : TabAt w 1 ks) :
    Calls Tryd.prog 30 #[.agg (ints .u64 st), .slice a len cap, .agg shpA64] w fun e w' => e = .returned (.agg (ints .u64 (blks sh64 ks st bs (len / 128)))) ∧ Below w.heap.size w w' := by
  by_cases h : 128 ≤ len
  · obtain ⟨b, off, rfl, hb⟩ := hv (by omega)
    exact takeBlocks64_more st b off len cap bs ks w hst hsl hlen0 h hb256 hcap hcap2 hlen9 hb hkl hkb hK
  · rw [show len / 128 = 0 by omega]
    exact takeBlocks64_none st a len cap w hst (by omega)
theorem lastBlocks64 (a : Option Addr) (rc : Nat) (rest : List Nat) (L : Nat) (w : World) (rl : Nat) (hrl0 : rest.length = rl) (hrl : rl < 128) (hb256 : ∀ j, rest.getD j 0 < 256) (hv : View w a rest) (hL : L ≤ 100000000000000) :
    Calls Tryd.prog 23 #[.slice a rl rc, .int .i64 (L : Int), .agg shpA64] w fun e w' => ∃ v, e = .returned v ∧ ∃ g n, v = .slice (some ⟨g, 0, none⟩) n n ∧ n = (lastB sh64 rest L).length ∧ Below w.heap.size w w' ∧ w'.heap[g]? = some (.cells (ints .u8 (lastB sh64 rest L)) 5 (0, 0)) := by
  by_cases h : rl + 17 ≤ 128
  · refine (lastBlocks64_128 a rc rest L w rl hrl0 hrl h hb256 hv hL).mono ?_
    rintro e w' ⟨g, rfl, hb, hg⟩
    refine ⟨_, rfl, g, 128, rfl, ?_, hb, hg⟩
    rw [lastB_len _ _ _ (by rw [hrl0]; show rl ≤ 128; omega), if_neg (by rw [hrl0]; show ¬ 128 < rl + 1 + 16; omega)]; rfl
  · refine (lastBlocks64_256 a rc rest L w rl hrl0 hrl (by omega) hb256 hv hL).mono ?_
    rintro e w' ⟨g, rfl, hb, hg⟩
    refine ⟨_, rfl, g, 256, rfl, ?_, hb, hg⟩
    rw [lastB_len _ _ _ (by rw [hrl0]; show rl ≤ 128; omega), if_pos (by rw [hrl0]; show 128 < rl + 1 + 16; omega)]; rfl
theorem digest64 (a : Option Addr) (len cap : Nat) (bs hs ks : List Nat) (w : World) (hlen0 : bs.length = len) (hb256 : ∀ j, bs.getD j 0 < 256) (hcap : len ≤ cap) (hcap2 : cap ≤ 9223372036854775807) (hlen2 : len ≤ 100000000000000)
    (hv : View w a bs) (hhl : hs.length = 8) (hhb : ∀ j, hs.getD j 0 < 18446744073709551616) (hH : TabAt w 0 hs) (hkl : ks.length = 80) (hkb : ∀ j, ks.getD j 0 < 18446744073709551616) (hK : TabAt w 1 ks) :
    Calls Tryd.prog 19 #[.slice a len cap, .agg shpA64] w fun e w' => ∃ g B, e = .returned (.slice (some ⟨g, 0, none⟩) 64 64) ∧ Below w.heap.size w w' ∧ w.heap.size ≤ B ∧ w'.ownsRow B 5 1 (.slice (some ⟨g, 0, none⟩) 64 64) 64 (bv (dig sh64 hs ks bs)) := by
  have hlen : Hid (bs.length = len) := hlen0
  clear hlen0
  have h0B : 0 < w.heap.size := block_lt_of_cell (hH 0 (by omega))
  have h1B : 1 < w.heap.size := block_lt_of_cell (hK 0 (by omega))
  unfold shpA64
  go_enter Tryd.func19, Tryd.ntmps19
  go_wp2_with fail
  go_loopw [8] (fun i wr => ∃ k : Nat, k ≤ 8 ∧ i = .int .i64 (k : Int) ∧ RelD64 w (initN 64 hs k) wr) (fun i _ => 8 - (intOf i).toNat)
  case atStart => exact ⟨0, by omega, rfl, RelD64.start w⟩
  case round =>
    obtain ⟨k, hk, rfl, hR⟩ := hrel
    by_cases hlt : k < 8
    · obtain ⟨kt, hkt⟩ : ∃ x, x = hs.getD k 0 := ⟨_, rfl⟩
      have bk : kt < 18446744073709551616 := by rw [hkt]; exact hhb _
      have cK : wr.cell? ⟨0, k, none⟩ = some (.int .u64 (kt : Int)) := by rw [hkt]; exact hH.below hR.1 h0B k (by omega)
      have c0 := shp_at64 hR.2.1 0 (.int .u64 64) rfl
      obtain ⟨v0, cS⟩ : ∃ v, wr.cell? ⟨w.heap.size + 1, k, none⟩ = some v := ⟨_, cell_ints hR.2.2 k (by rw [initN_len]; omega)⟩
      have fS := free_ints hR.2.2 k
      have HN : Hid (RelD64 w (initN 64 hs (k + 1)) (wr.setCell ⟨w.heap.size + 1, k, none⟩ (.int .u64 ((kt >>> (64 - 64) : Nat) : Int)))) := by rw [hkt]; exact hR.store k _
      clear hkt hR
      go_wp2_with fail
      go_region
      all_goals
        go_wp2_with fail
        go_roundw
        case rel => exact ⟨k + 1, by omega, by go_num, by exact ⟨HN.out.1.drew, HN.out.2.1, HN.out.2.2⟩⟩
        case measure => simp [intOf]; omega
    · obtain rfl : k = 8 := by omega
      have h14 : (Tryd.prog.info? 33).map (·.size) = some shpA64.size := by kernel_rfl
      have h8 : (Tryd.prog.info? 41).map (·.size) = some 8 := by kernel_rfl
      have h0 := hR.2.1
      go_wp2_with (refine wpList_load_row rfl 33 (.tmp 3) rfl _ rfl 33 shpA64 (0, 0) _ h0 Tryd.underlying33 rfl h14 ?_)
      refine (blockBytes64 _).mono ?_
      rintro e w1 ⟨rfl, hb1⟩
      have hR1 := hR.on hb1
      clear hR hb1 h0
      obtain ⟨wh, hwh⟩ : ∃ x, x = len - len % 128 := ⟨_, rfl⟩
      have hwI : (len : Int) - (len : Int) % 128 = (wh : Int) := by omega
      have HWH : Hid (wh = len - len % 128) := hwh
      have hwl : wh ≤ len := by omega
      clear hwh
      go_wp2_with fail
      obtain ⟨st0, hst0⟩ : ∃ x, x = initN 64 hs 8 := ⟨_, rfl⟩
      rw [← hst0] at hR1
      have hl0 : st0.length = 8 := by rw [hst0]; exact initN_len _ _ _
      have hs0 : ∀ j, st0.getD j 0 < 18446744073709551616 := by rw [hst0]; exact initN_lt64 hs hhb 8
      have hv1 : View w1 (cutA a 0 cap) (bs.take wh) := by
        have := (hv.below hR1.1).cut 0 wh cap (by rw [hlen.out]; omega) (by rw [hlen.out]; omega)
        rwa [List.drop_zero] at this
      have hT := takeBlocks64 st0 (cutA a 0 cap) wh cap (bs.take wh) ks w1.drew hl0 hs0 (by have := hlen.out; simp; omega) (take_lt _ _ hb256) (by omega) hcap2 (by omega) (hv1.below (Below.refl _ _).drew) hkl hkb (hK.below hR1.1.drew h1B)
      obtain ⟨st1, hst1⟩ : ∃ x, x = blks sh64 ks st0 (bs.take wh) (wh / 128) := ⟨_, rfl⟩
      have hl1 : st1.length = 8 := by rw [hst1]; exact blks_len _ _ _ _ hl0 _
      have hs1 : ∀ j, st1.getD j 0 < 18446744073709551616 := by rw [hst1]; exact blks_lt sh64 _ _ _ hs0 _
      rw [← hst1] at hT
      have HST1 : Hid (st1 = blks sh64 ks st0 (bs.take wh) (wh / 128)) := hst1
      have HST0 : Hid (st0 = initN 64 hs 8) := hst0
      obtain ⟨v0, hv0⟩ : ∃ x, x = ints .u64 st0 := ⟨_, rfl⟩
      obtain ⟨v1, hvv1⟩ : ∃ x, x = ints .u64 st1 := ⟨_, rfl⟩
      have z0 : v0.size = 8 := by rw [hv0, ints_size, hl0]
      have z1 : v1.size = 8 := by rw [hvv1, ints_size, hl1]
      have o1 : v1.all (·.oneCell') = true := by rw [hvv1]; exact ints_one _ _
      have hr0 : w1.drew.heap[w.heap.size + 1]? = some (.cells v0 41 (0, 0)) := by rw [hv0]; exact hR1.2.2
      have hr1 : w1.drew.heap[w.heap.size]? = some (.cells shpA64 33 (0, 0)) := hR1.2.1
      rw [← hv0, ← hvv1] at hT
      have HV0 : Hid (v0 = ints .u64 st0) := hv0
      have HV1 : Hid (v1 = ints .u64 st1) := hvv1
      clear hst1 hst0 hv0 hvv1
      refine wp_region_still_tail 5 (by kernel_rfl) (by kernel_rfl) ?_
      simp only [List.take_succ_cons, List.take_zero, List.drop_succ_cons, List.drop_zero]
      show wpStill _ _ w1.drew (fun a' => wpList _ _ _ _ a' w1.drew) _ _
      refine wpStill_load_row rfl 41 (.tmp 5) rfl _ rfl 41 v0 (0, 0) _ hr0 Tryd.underlying41 rfl (by rw [z0]; exact h8) ?_
      simp only [Act.put, List.setIfInBounds_toArray, List.set_cons_succ, List.set_cons_zero]
      refine wpStill_run _ rfl (run_move (.tmp 0) rfl _) ?_
      simp only [Act.put, List.setIfInBounds_toArray, List.set_cons_succ, List.set_cons_zero]
      refine wpStill_run _ rfl (run_move (.tmp 7) rfl _) ?_
      simp only [Act.put, List.setIfInBounds_toArray, List.set_cons_succ, List.set_cons_zero]
      refine wpStill_run (.slice (cutA a 0 cap) wh cap) rfl ?c1 ?_
      case c1 => exact run_sliceO (run_cut_h a len cap wh _ (by omega)) rfl
      simp only [Act.put, List.setIfInBounds_toArray, List.set_cons_succ, List.set_cons_zero]
      refine wpStill_load_row rfl 33 (.tmp 3) rfl _ rfl 33 shpA64 (0, 0) _ hr1 Tryd.underlying33 rfl h14 ?_
      simp only [Act.put, List.setIfInBounds_toArray, List.set_cons_succ, List.set_cons_zero]
      refine wpStill_nil ?_
      go_wp2_with fail
      refine hT.mono ?_
      rintro e w2 ⟨rfl, hb2⟩
      have hR2 : RelD64 w st0 w2 := RelD64.on (wr := w1.drew) ⟨hR1.1.drew, hR1.2.1, hR1.2.2⟩ hb2
      have hr2 : w2.heap[w.heap.size + 1]? = some (.cells v0 41 (0, 0)) := by rw [HV0.out]; exact hR2.2.2
      clear hT hb2 hr0 hr1 hR1 hv1
      go_wp2_with (refine wpList_store_row rfl 41 (.tmp 5) (.tmp 34) rfl _ v1 rfl rfl 41 _ hr2 (by rw [z1]; exact h8) (by rw [z0, z1]) o1 ?_)
      simp only [Act.put]
      have hR3 : RelD64 w st1 (w2.setRow (w.heap.size + 1) v1) := by rw [HV1.out]; exact hR2.setRow st1
      obtain ⟨w3, hw3⟩ : ∃ x, x = w2.setRow (w.heap.size + 1) v1 := ⟨_, rfl⟩
      rw [← hw3] at hR3 ⊢
      clear hw3 hR2 hr2
      have hdl : (bs.drop wh).length = len - wh := by rw [List.length_drop, hlen.out]
      have hdb : ∀ j, (bs.drop wh).getD j 0 < 256 := fun j => by
        have := hb256 (wh + j)
        simpa using this
      have hv3 : View w3.drew (cutA a wh cap) (bs.drop wh) := by
        have := ((hv.below hR3.1).cut wh (len - wh) cap (by rw [hlen.out]; omega) (by rw [hlen.out]; omega)).below (Below.refl _ _).drew
        rwa [List.take_of_length_le (by rw [hdl]; omega)] at this
      have hLB := lastBlocks64 (cutA a wh cap) (cap - wh) (bs.drop wh) len w3.drew (len - wh) hdl (by have := HWH.out; omega) hdb hv3 hlen2
      have hlast : (lastB sh64 (bs.drop wh) len).length ≤ 256 := by
        rw [lastB_len _ _ _ (by rw [hdl]; have := HWH.out; show len - wh ≤ 128; omega)]
        split <;> decide
      have hr3 : w3.drew.heap[w.heap.size + 1]? = some (.cells v1 41 (0, 0)) := by rw [HV1.out]; exact hR3.2.2
      refine wp_region_held (S := fun w' => w'.heap[w.heap.size]? = some (.cells shpA64 33 (0, 0))) (by kernel_rfl) ?_
      show wpAnyH _ _ _ _ _ 11 (Array.replicate 11 false) _ w3.drew
      refine take_at (i := 1) (some 36) _ rfl rfl (by kernel_rfl) (by kernel_rfl) (by kernel_rfl) (fun _ _ _ h => h) (yields_move rfl (.tmp 0) rfl) hR3.2.1 ?_
      simp only [Act.put, List.setIfInBounds_toArray, List.set_cons_succ, List.set_cons_zero]
      refine take_at (i := 2) (some 37) _ rfl rfl (by kernel_rfl) (by kernel_rfl) (by kernel_rfl) (fun _ _ _ h => h) (yields_move rfl (.tmp 7) rfl) hR3.2.1 ?_
      simp only [Act.put, List.setIfInBounds_toArray, List.set_cons_succ, List.set_cons_zero]
      refine take_at (i := 3) (some 38) _ rfl rfl (by kernel_rfl) (by kernel_rfl) (by kernel_rfl) (fun _ _ _ h => h) (yields_run (v := .slice (cutA a wh cap) (len - wh) (cap - wh)) rfl fun w' _ => run_sliceO (run_cut_l a len cap wh w' hwl) rfl) hR3.2.1 ?_
      simp only [Act.put, List.setIfInBounds_toArray, List.set_cons_succ, List.set_cons_zero]
      refine take_at (i := 4) (some 39) _ rfl rfl (by kernel_rfl) (by kernel_rfl) (by kernel_rfl) (fun _ _ _ h => h) (yields_move rfl (.tmp 0) rfl) hR3.2.1 ?_
      simp only [Act.put, List.setIfInBounds_toArray, List.set_cons_succ, List.set_cons_zero]
      refine take_at (i := 5) (some 40) _ rfl rfl (by kernel_rfl) (by kernel_rfl) (by kernel_rfl) (fun _ _ _ h => h) (yields_run (v := .int .i64 (len : Int)) rfl fun w' _ => run_lenO (a := a) (cap := cap) rfl rfl) hR3.2.1 ?_
      simp only [Act.put, List.setIfInBounds_toArray, List.set_cons_succ, List.set_cons_zero]
      refine take_at (i := 6) (some 41) _ rfl rfl (by kernel_rfl) (by kernel_rfl) (by kernel_rfl) (fun _ _ _ h => h) (yields_load_row rfl 33 (.tmp 3) rfl _ rfl 33 shpA64 (0, 0) _ (fun w' h => h) Tryd.underlying33 rfl h14) hR3.2.1 ?_
      simp only [Act.put, List.setIfInBounds_toArray, List.set_cons_succ, List.set_cons_zero]
      refine take_at (i := 8) (some 43) _ rfl rfl (by kernel_rfl) (by kernel_rfl) (by kernel_rfl) (fun _ _ _ h => h) (yields_load_row rfl 33 (.tmp 3) rfl _ rfl 33 shpA64 (0, 0) _ (fun w' h => h) Tryd.underlying33 rfl h14) hR3.2.1 ?_
      simp only [Act.put, List.setIfInBounds_toArray, List.set_cons_succ, List.set_cons_zero]
      refine two_at (i := 0) (j := 7) (by kernel_rfl) ?_ ?_
      · refine load_at (some 35) rfl rfl rfl 41 (.tmp 5) rfl (w.heap.size + 1) rfl 41 v1 (0, 0) _ hr3 Tryd.underlying41 rfl (by rw [z1]; exact h8) ?_
        refine ⟨hR3.2.1, ?_⟩
        simp only [Act.put, List.setIfInBounds_toArray, List.set_cons_succ, List.set_cons_zero]
        refine one_at (i := 7) (by kernel_rfl) ?_
        refine call_at (some 42) rfl rfl rfl 23 #[.slice (cutA a wh cap) (len - wh) (cap - wh), .int .i64 (len : Int), .agg shpA64] (R := fun v w' => ∃ g n, v = .slice (some ⟨g, 0, none⟩) n n ∧ n = (lastB sh64 (bs.drop wh) len).length ∧ Below w3.drew.heap.size w3.drew w' ∧ w'.heap[g]? = some (.cells (ints .u8 (lastB sh64 (bs.drop wh) len)) 5 (0, 0))) (by kernel_rfl) hLB ?_
        rintro v4 w4 ⟨g, n, rfl, hn, hb4, hg4⟩
        have hR4 : RelD64 w st1 w4 := RelD64.on (wr := w3.drew) ⟨hR3.1.drew, hR3.2.1, hR3.2.2⟩ hb4
        refine ⟨hR4.2.1, ?_⟩
        simp only [Act.put, List.setIfInBounds_toArray, List.set_cons_succ, List.set_cons_zero]
        have hT2 := takeBlocks64 st1 (some ⟨g, 0, none⟩) n n (lastB sh64 (bs.drop wh) len) ks w4 hl1 hs1 hn.symm (lastB_lt _ _ _ hdb) (Nat.le_refl _) (by rw [hn]; have := hlast; omega) (by rw [hn]; have := hlast; omega) (fun _ => ⟨g, 0, rfl, bytes_row hg4⟩) hkl hkb (hK.below hR4.1 h1B)
        rw [← HV1.out] at hT2
        obtain ⟨st2, hst2⟩ : ∃ x, x = blks sh64 ks st1 (lastB sh64 (bs.drop wh) len) (n / 128) := ⟨_, rfl⟩
        rw [← hst2] at hT2
        have hl2 : st2.length = 8 := by rw [hst2]; exact blks_len _ _ _ _ hl1 _
        obtain ⟨v2, hv2⟩ : ∃ x, x = ints .u64 st2 := ⟨_, rfl⟩
        have z2 : v2.size = 8 := by rw [hv2, ints_size, hl2]
        have o2 : v2.all (·.oneCell') = true := by rw [hv2]; exact ints_one _ _
        rw [← hv2] at hT2
        refine one_at (i := 9) (by kernel_rfl) ?_
        refine call_at (some 44) rfl rfl rfl 30 #[.agg v1, .slice (some ⟨g, 0, none⟩) n n, .agg shpA64] (R := fun v w' => v = .agg v2 ∧ Below w4.heap.size w4 w') (by kernel_rfl) (hT2.mono fun e w' h => ⟨_, h.1, rfl, h.2⟩) ?_
        rintro v5 w5 ⟨rfl, hb5⟩
        have hR5 := hR4.on hb5
        refine ⟨hR5.2.1, ?_⟩
        simp only [Act.put, List.setIfInBounds_toArray, List.set_cons_succ, List.set_cons_zero]
        have hr5 : w5.heap[w.heap.size + 1]? = some (.cells v1 41 (0, 0)) := by rw [HV1.out]; exact hR5.2.2
        refine one_at (i := 10) (by kernel_rfl) ?_
        refine store_at rfl rfl rfl 41 (.tmp 5) (.tmp 44) rfl (w.heap.size + 1) v2 rfl rfl 41 v1 hr5 (by rw [z2]; exact h8) (by rw [z1, z2]) o2 ?_
        have hR6 : RelD64 w st2 (w5.setRow (w.heap.size + 1) v2) := by rw [hv2]; exact hR5.setRow st2
        refine ⟨hR6.2.1, wpAnyH_done (by kernel_rfl) ?_ _⟩
        have HDIG : Hid (dig sh64 hs ks bs = stB 64 st2 8) := by
          show dig sh64 hs ks bs = _
          unfold dig
          rw [hst2, HST1.out, HST0.out, hn]
          have e1 : bs.length - bs.length % (2 * sh64.W) = wh := by rw [HWH.out, hlen.out]; rfl
          rw [e1, hlen.out]; rfl
        obtain ⟨w6, hw6⟩ : ∃ x, x = w5.setRow (w.heap.size + 1) v2 := ⟨_, rfl⟩
        rw [← hw6] at hR6 ⊢
        have HV2 : Hid (v2 = ints .u64 st2) := hv2
        clear hw6 hR5 hr5 hb5 hT2 hR4 hg4 hb4 hn hst2 hv2 hR3
        have h60 := hR6.2.1
        have h61 : w6.heap[w.heap.size + 1]? = some (.cells v2 41 (0, 0)) := by rw [HV2.out]; exact hR6.2.2
        go_wp2_with (first
          | (refine wpList_load_row rfl 33 (.tmp 3) rfl _ rfl 33 shpA64 (0, 0) _ h60 Tryd.underlying33 rfl h14 ?_)
          | (refine wpList_load_row rfl 41 (.tmp 5) rfl _ rfl 41 v2 (0, 0) _ h61 Tryd.underlying41 rfl (by rw [z2]; exact h8) ?_))
        rw [HV2.out]
        refine (stateBytes64 st2 w6 hl2).mono ?_
        rintro e w7 ⟨g7, rfl, hb7, ho7⟩
        go_wp2_with fail
        go_ret
        exact ⟨g7, w6.heap.size + 1 + 1, rfl, hR6.1.trans (hb7.mono hR6.1.size), by have := hR6.1.size; omega, by rw [HDIG.out]; exact ho7⟩
      · refine call_at (some 42) rfl rfl rfl 23 #[.slice (cutA a wh cap) (len - wh) (cap - wh), .int .i64 (len : Int), .agg shpA64] (R := fun v w' => ∃ g n, v = .slice (some ⟨g, 0, none⟩) n n ∧ n = (lastB sh64 (bs.drop wh) len).length ∧ Below w3.drew.heap.size w3.drew w' ∧ w'.heap[g]? = some (.cells (ints .u8 (lastB sh64 (bs.drop wh) len)) 5 (0, 0))) (by kernel_rfl) hLB ?_
        rintro v4 w4 ⟨g, n, rfl, hn, hb4, hg4⟩
        have hR4 : RelD64 w st1 w4 := RelD64.on (wr := w3.drew) ⟨hR3.1.drew, hR3.2.1, hR3.2.2⟩ hb4
        refine ⟨hR4.2.1, ?_⟩
        simp only [Act.put, List.setIfInBounds_toArray, List.set_cons_succ, List.set_cons_zero]
        have hr4 : w4.heap[w.heap.size + 1]? = some (.cells v1 41 (0, 0)) := by rw [HV1.out]; exact hR4.2.2
        refine one_at (i := 0) (by kernel_rfl) ?_
        refine load_at (some 35) rfl rfl rfl 41 (.tmp 5) rfl (w.heap.size + 1) rfl 41 v1 (0, 0) _ hr4 Tryd.underlying41 rfl (by rw [z1]; exact h8) ?_
        refine ⟨hR4.2.1, ?_⟩
        simp only [Act.put, List.setIfInBounds_toArray, List.set_cons_succ, List.set_cons_zero]
        have hT2 := takeBlocks64 st1 (some ⟨g, 0, none⟩) n n (lastB sh64 (bs.drop wh) len) ks w4 hl1 hs1 hn.symm (lastB_lt _ _ _ hdb) (Nat.le_refl _) (by rw [hn]; have := hlast; omega) (by rw [hn]; have := hlast; omega) (fun _ => ⟨g, 0, rfl, bytes_row hg4⟩) hkl hkb (hK.below hR4.1 h1B)
        rw [← HV1.out] at hT2
        obtain ⟨st2, hst2⟩ : ∃ x, x = blks sh64 ks st1 (lastB sh64 (bs.drop wh) len) (n / 128) := ⟨_, rfl⟩
        rw [← hst2] at hT2
        have hl2 : st2.length = 8 := by rw [hst2]; exact blks_len _ _ _ _ hl1 _
        obtain ⟨v2, hv2⟩ : ∃ x, x = ints .u64 st2 := ⟨_, rfl⟩
        have z2 : v2.size = 8 := by rw [hv2, ints_size, hl2]
        have o2 : v2.all (·.oneCell') = true := by rw [hv2]; exact ints_one _ _
        rw [← hv2] at hT2
        refine one_at (i := 9) (by kernel_rfl) ?_
        refine call_at (some 44) rfl rfl rfl 30 #[.agg v1, .slice (some ⟨g, 0, none⟩) n n, .agg shpA64] (R := fun v w' => v = .agg v2 ∧ Below w4.heap.size w4 w') (by kernel_rfl) (hT2.mono fun e w' h => ⟨_, h.1, rfl, h.2⟩) ?_
        rintro v5 w5 ⟨rfl, hb5⟩
        have hR5 := hR4.on hb5
        refine ⟨hR5.2.1, ?_⟩
        simp only [Act.put, List.setIfInBounds_toArray, List.set_cons_succ, List.set_cons_zero]
        have hr5 : w5.heap[w.heap.size + 1]? = some (.cells v1 41 (0, 0)) := by rw [HV1.out]; exact hR5.2.2
        refine one_at (i := 10) (by kernel_rfl) ?_
        refine store_at rfl rfl rfl 41 (.tmp 5) (.tmp 44) rfl (w.heap.size + 1) v2 rfl rfl 41 v1 hr5 (by rw [z2]; exact h8) (by rw [z1, z2]) o2 ?_
        have hR6 : RelD64 w st2 (w5.setRow (w.heap.size + 1) v2) := by rw [hv2]; exact hR5.setRow st2
        refine ⟨hR6.2.1, wpAnyH_done (by kernel_rfl) ?_ _⟩
        have HDIG : Hid (dig sh64 hs ks bs = stB 64 st2 8) := by
          show dig sh64 hs ks bs = _
          unfold dig
          rw [hst2, HST1.out, HST0.out, hn]
          have e1 : bs.length - bs.length % (2 * sh64.W) = wh := by rw [HWH.out, hlen.out]; rfl
          rw [e1, hlen.out]; rfl
        obtain ⟨w6, hw6⟩ : ∃ x, x = w5.setRow (w.heap.size + 1) v2 := ⟨_, rfl⟩
        rw [← hw6] at hR6 ⊢
        have HV2 : Hid (v2 = ints .u64 st2) := hv2
        clear hw6 hR5 hr5 hb5 hT2 hR4 hg4 hb4 hn hst2 hv2 hR3
        have h60 := hR6.2.1
        have h61 : w6.heap[w.heap.size + 1]? = some (.cells v2 41 (0, 0)) := by rw [HV2.out]; exact hR6.2.2
        go_wp2_with (first
          | (refine wpList_load_row rfl 33 (.tmp 3) rfl _ rfl 33 shpA64 (0, 0) _ h60 Tryd.underlying33 rfl h14 ?_)
          | (refine wpList_load_row rfl 41 (.tmp 5) rfl _ rfl 41 v2 (0, 0) _ h61 Tryd.underlying41 rfl (by rw [z2]; exact h8) ?_))
        rw [HV2.out]
        refine (stateBytes64 st2 w6 hl2).mono ?_
        rintro e w7 ⟨g7, rfl, hb7, ho7⟩
        go_wp2_with fail
        go_ret
        exact ⟨g7, w6.heap.size + 1 + 1, rfl, hR6.1.trans (hb7.mono hR6.1.size), by have := hR6.1.size; omega, by rw [HDIG.out]; exact ho7⟩
end Go.Proofs.YtomfnkbghlpkeaaDoor
