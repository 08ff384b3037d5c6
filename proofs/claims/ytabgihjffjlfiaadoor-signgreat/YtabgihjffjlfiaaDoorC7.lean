/-
  The walk of digest, at words of 64 bits. The two tables of the program, as lists of numbers; the digests of no bytes, reckoned by the kernel. The walks of few, Same, Equal, Sum256, Sum512 and lives. What sign calls, told of bytes wherever they lie; the walks of halves, bases. Parts put together; the walks of number, keyOf. The walk of keyOf. The walks of Public, Sign. few, lives. Single operations and calls for Verify and the laws. The walk of Verify. The walk of seed. The document's example, by the kernel.
-/
import Derived.Test.YtabgihjffjlfiaaDoorC6
import Derived.Test.YtabgihjffjlfiaaDoorC0
import Derived.Test.YtabgihjffjlfiaaDoorC1
import Derived.Laws.BytesString
import Derived.Test.YtabgihjffjlfiaaDoorC5
set_option linter.unusedVariables false
namespace Go.Proofs.YtabgihjffjlfiaaDoor
open Go.RowKit Go.Sort Go.BigFrame
set_option maxRecDepth 100000
set_option maxHeartbeats 800000
def RelD64 (w : World) (l : List Nat) (wr : World) : Prop :=
  Below w.heap.size w wr ∧ wr.heap[w.heap.size]? = some (.cells shpA64 88 (0, 0)) ∧ wr.heap[w.heap.size + 1]? = some (.cells (ints .u64 l) 106 (0, 0))
theorem RelD64.start (w : World) : RelD64 w (List.replicate 8 0) ((w.alloc (.cells shpA64 88)).alloc (.cells z8_64 106)) :=
  ⟨below2 _ _ _, heap_alloc2_old _ _ _, heap_alloc2_new _ _ _⟩
theorem RelD64.on {w wr w1 : World} {l : List Nat} (h : RelD64 w l wr) (hb : Below wr.heap.size wr w1) : RelD64 w l w1 :=
  ⟨h.1.trans (hb.mono h.1.size), block_below hb (lt_of_heap h.2.1) h.2.1, block_below hb (lt_of_heap h.2.2) h.2.2⟩
theorem RelD64.store {w wr : World} {l : List Nat} (h : RelD64 w l wr) (j v : Nat) : RelD64 w (l.set j v) (wr.setCell ⟨w.heap.size + 1, j, none⟩ (.int .u64 (v : Int))) :=
  ⟨h.1.setCell (by simp) _, by rw [heap_setCell_other _ _ _ _ (by simp)]; exact h.2.1, set_ints h.2.2 j v⟩
theorem RelD64.setRow {w wr : World} {l : List Nat} (h : RelD64 w l wr) (l' : List Nat) : RelD64 w l' (wr.setRow (w.heap.size + 1) (ints .u64 l')) :=
  ⟨setRow_below h.1 (by omega) _, (setRow_other _ _ _ _ (by omega)).trans h.2.1, setRow_heap _ _ _ _ _ _ h.2.2⟩
theorem initN_lt64 (hs : List Nat) (h : ∀ j, hs.getD j 0 < 18446744073709551616) : ∀ k j, (initN 64 hs k).getD j 0 < 18446744073709551616
  | 0, j => by simp only [initN, List.getD_eq_getElem?_getD, List.getElem?_replicate]; split <;> simp
  | k + 1, j => getD_set_lt (initN_lt64 hs h k) (by rw [Nat.shiftRight_eq_div_pow]; have := h k; omega) j
theorem takeBlocks64 (st : List Nat) (a : Option Addr) (len cap : Nat) (bs ks : List Nat) (w : World) (hst : st.length = 8) (hsl : ∀ j, st.getD j 0 < 18446744073709551616) (hlen0 : bs.length = len) (hb256 : ∀ j, bs.getD j 0 < 256) (hcap : len ≤ cap) (hcap2 : cap ≤ 9223372036854775807) (hlen9 : len ≤ 100000000000000)
    (hv : View w a bs) (hkl : ks.length = 80) (hkb : ∀ j, ks.getD j 0 < 18446744073709551616) (hK : TabAt w 7 ks) :
    Calls Tryd.prog 88 #[.agg (ints .u64 st), .slice a len cap, .agg shpA64] w fun e w' => e = .returned (.agg (ints .u64 (blks sh64 ks st bs (len / 128)))) ∧ Below w.heap.size w w' := by
  by_cases h : 128 ≤ len
  · obtain ⟨b, off, rfl, hb⟩ := hv (by omega)
    exact takeBlocks64_more st b off len cap bs ks w hst hsl hlen0 h hb256 hcap hcap2 hlen9 hb hkl hkb hK
  · rw [show len / 128 = 0 by omega]
    exact takeBlocks64_none st a len cap w hst (by omega)
theorem lastBlocks64 (a : Option Addr) (rc : Nat) (rest : List Nat) (L : Nat) (w : World) (rl : Nat) (hrl0 : rest.length = rl) (hrl : rl < 128) (hb256 : ∀ j, rest.getD j 0 < 256) (hv : View w a rest) (hL : L ≤ 100000000000000) :
    Calls Tryd.prog 89 #[.slice a rl rc, .int .i64 (L : Int), .agg shpA64] w fun e w' => ∃ v, e = .returned v ∧ ∃ g n, v = .slice (some ⟨g, 0, none⟩) n n ∧ n = (lastB sh64 rest L).length ∧ Below w.heap.size w w' ∧ w'.heap[g]? = some (.cells (ints .u8 (lastB sh64 rest L)) 5 (0, 0)) := by
  by_cases h : rl + 17 ≤ 128
  · refine (lastBlocks64_128 a rc rest L w rl hrl0 hrl h hb256 hv hL).mono ?_
    rintro e w' ⟨g, rfl, hb, hg⟩
    refine ⟨_, rfl, g, 128, rfl, ?_, hb, hg⟩
    rw [lastB_len _ _ _ (by rw [hrl0]; show rl ≤ 128; omega), if_neg (by rw [hrl0]; show ¬ 128 < rl + 1 + 16; omega)]; rfl
  · refine (lastBlocks64_256 a rc rest L w rl hrl0 hrl (by omega) hb256 hv hL).mono ?_
    rintro e w' ⟨g, rfl, hb, hg⟩
    refine ⟨_, rfl, g, 256, rfl, ?_, hb, hg⟩
    rw [lastB_len _ _ _ (by rw [hrl0]; show rl ≤ 128; omega), if_pos (by rw [hrl0]; show 128 < rl + 1 + 16; omega)]; rfl
theorem digest64 (a : Option Addr) (len cap : Nat) (bs hs ks : List Nat) (w : World) (hlen0 : bs.length = len) (hb256 : ∀ j, bs.getD j 0 < 256) (hcap : len ≤ cap) (hcap2 : cap ≤ 9223372036854775807) (hlen2 : len ≤ 100000000000000)
    (hv : View w a bs) (hhl : hs.length = 8) (hhb : ∀ j, hs.getD j 0 < 18446744073709551616) (hH : TabAt w 3 hs) (hkl : ks.length = 80) (hkb : ∀ j, ks.getD j 0 < 18446744073709551616) (hK : TabAt w 7 ks) :
    Calls Tryd.prog 61 #[.slice a len cap, .agg shpA64] w fun e w' => ∃ g B, e = .returned (.slice (some ⟨g, 0, none⟩) 64 64) ∧ Below w.heap.size w w' ∧ w.heap.size ≤ B ∧ w'.ownsRow B 5 1 (.slice (some ⟨g, 0, none⟩) 64 64) 64 (Hbv (dig sh64 hs ks bs)) := by
  have hlen : Hid (bs.length = len) := hlen0
  clear hlen0
  have h0B : 3 < w.heap.size := block_lt_of_cell (hH 0 (by omega))
  have h1B : 7 < w.heap.size := block_lt_of_cell (hK 0 (by omega))
  unfold shpA64
  go_enter Tryd.func61, Tryd.ntmps61
  go_wp2_with fail
  go_loopw [8] (fun i wr => ∃ k : Nat, k ≤ 8 ∧ i = .int .i64 (k : Int) ∧ RelD64 w (initN 64 hs k) wr) (fun i _ => 8 - (intOf i).toNat)
  case atStart => exact ⟨0, by omega, rfl, RelD64.start w⟩
  case round =>
    obtain ⟨k, hk, rfl, hR⟩ := hrel
    by_cases hlt : k < 8
    · obtain ⟨kt, hkt⟩ : ∃ x, x = hs.getD k 0 := ⟨_, rfl⟩
      have bk : kt < 18446744073709551616 := by rw [hkt]; exact hhb _
      have cK : wr.cell? ⟨3, k, none⟩ = some (.int .u64 (kt : Int)) := by rw [hkt]; exact hH.below hR.1 h0B k (by omega)
      have c0 := shp_at64 hR.2.1 0 (.int .u64 64) rfl
      obtain ⟨v0, cS⟩ : ∃ v, wr.cell? ⟨w.heap.size + 1, k, none⟩ = some v := ⟨_, cell_ints hR.2.2 k (by rw [initN_len]; omega)⟩
      have fS := free_ints hR.2.2 k
      have HN : Hid (RelD64 w (initN 64 hs (k + 1)) (wr.setCell ⟨w.heap.size + 1, k, none⟩ (.int .u64 ((kt >>> (64 - 64) : Nat) : Int)))) := by rw [hkt]; exact hR.store k _
      clear hkt hR
      go_wp2_with fail
      go_region
      all_goals
        go_wp2_with fail
        go_roundw
        case rel => exact ⟨k + 1, by omega, by go_num, by exact ⟨HN.out.1.drew, HN.out.2.1, HN.out.2.2⟩⟩
        case measure => simp [intOf]; omega
    · obtain rfl : k = 8 := by omega
      have h14 : (Tryd.prog.info? 88).map (·.size) = some shpA64.size := by kernel_rfl
      have h8 : (Tryd.prog.info? 106).map (·.size) = some 8 := by kernel_rfl
      have h0 := hR.2.1
      go_wp2_with (refine wpList_load_row rfl 88 (.tmp 3) rfl _ rfl 88 shpA64 (0, 0) _ h0 Tryd.underlying88 rfl h14 ?_)
      refine (blockBytes64 _).mono ?_
      rintro e w1 ⟨rfl, hb1⟩
      have hR1 := hR.on hb1
      clear hR hb1 h0
      obtain ⟨wh, hwh⟩ : ∃ x, x = len - len % 128 := ⟨_, rfl⟩
      have hwI : (len : Int) - (len : Int) % 128 = (wh : Int) := by omega
      have HWH : Hid (wh = len - len % 128) := hwh
      have hwl : wh ≤ len := by omega
      clear hwh
      go_wp2_with fail
      obtain ⟨st0, hst0⟩ : ∃ x, x = initN 64 hs 8 := ⟨_, rfl⟩
      rw [← hst0] at hR1
      have hl0 : st0.length = 8 := by rw [hst0]; exact initN_len _ _ _
      have hs0 : ∀ j, st0.getD j 0 < 18446744073709551616 := by rw [hst0]; exact initN_lt64 hs hhb 8
      have hv1 : View w1 (cutA a 0 cap) (bs.take wh) := by
        have := (hv.below hR1.1).cut 0 wh cap (by rw [hlen.out]; omega) (by rw [hlen.out]; omega)
        rwa [List.drop_zero] at this
      have hT := takeBlocks64 st0 (cutA a 0 cap) wh cap (bs.take wh) ks w1.drew hl0 hs0 (by have := hlen.out; simp; omega) (take_lt _ _ hb256) (by omega) hcap2 (by omega) (hv1.below (Below.refl _ _).drew) hkl hkb (hK.below hR1.1.drew h1B)
      obtain ⟨st1, hst1⟩ : ∃ x, x = blks sh64 ks st0 (bs.take wh) (wh / 128) := ⟨_, rfl⟩
      have hl1 : st1.length = 8 := by rw [hst1]; exact blks_len _ _ _ _ hl0 _
      have hs1 : ∀ j, st1.getD j 0 < 18446744073709551616 := by rw [hst1]; exact blks_lt sh64 _ _ _ hs0 _
      rw [← hst1] at hT
      have HST1 : Hid (st1 = blks sh64 ks st0 (bs.take wh) (wh / 128)) := hst1
      have HST0 : Hid (st0 = initN 64 hs 8) := hst0
      obtain ⟨v0, hv0⟩ : ∃ x, x = ints .u64 st0 := ⟨_, rfl⟩
      obtain ⟨v1, hvv1⟩ : ∃ x, x = ints .u64 st1 := ⟨_, rfl⟩
      have z0 : v0.size = 8 := by rw [hv0, ints_size, hl0]
      have z1 : v1.size = 8 := by rw [hvv1, ints_size, hl1]
      have o1 : v1.all (·.oneCell') = true := by rw [hvv1]; exact ints_one _ _
      have hr0 : w1.drew.heap[w.heap.size + 1]? = some (.cells v0 106 (0, 0)) := by rw [hv0]; exact hR1.2.2
      have hr1 : w1.drew.heap[w.heap.size]? = some (.cells shpA64 88 (0, 0)) := hR1.2.1
      rw [← hv0, ← hvv1] at hT
      have HV0 : Hid (v0 = ints .u64 st0) := hv0
      have HV1 : Hid (v1 = ints .u64 st1) := hvv1
      clear hst1 hst0 hv0 hvv1
      refine wp_region_still_tail 5 (by kernel_rfl) (by kernel_rfl) ?_
      simp only [List.take_succ_cons, List.take_zero, List.drop_succ_cons, List.drop_zero]
      show wpStill _ _ w1.drew (fun a' => wpList _ _ _ _ a' w1.drew) _ _
      refine wpStill_load_row rfl 106 (.tmp 5) rfl _ rfl 106 v0 (0, 0) _ hr0 Tryd.underlying106 rfl (by rw [z0]; exact h8) ?_
      simp only [Act.put, List.setIfInBounds_toArray, List.set_cons_succ, List.set_cons_zero]
      refine wpStill_run _ rfl (run_move (.tmp 0) rfl _) ?_
      simp only [Act.put, List.setIfInBounds_toArray, List.set_cons_succ, List.set_cons_zero]
      refine wpStill_run _ rfl (run_move (.tmp 7) rfl _) ?_
      simp only [Act.put, List.setIfInBounds_toArray, List.set_cons_succ, List.set_cons_zero]
      refine wpStill_run (.slice (cutA a 0 cap) wh cap) rfl ?c1 ?_
      case c1 => exact Hrun_sliceO (run_cut_h a len cap wh _ (by omega)) rfl
      simp only [Act.put, List.setIfInBounds_toArray, List.set_cons_succ, List.set_cons_zero]
      refine wpStill_load_row rfl 88 (.tmp 3) rfl _ rfl 88 shpA64 (0, 0) _ hr1 Tryd.underlying88 rfl h14 ?_
      simp only [Act.put, List.setIfInBounds_toArray, List.set_cons_succ, List.set_cons_zero]
      refine wpStill_nil ?_
      go_wp2_with fail
      refine hT.mono ?_
      rintro e w2 ⟨rfl, hb2⟩
      have hR2 : RelD64 w st0 w2 := RelD64.on (wr := w1.drew) ⟨hR1.1.drew, hR1.2.1, hR1.2.2⟩ hb2
      have hr2 : w2.heap[w.heap.size + 1]? = some (.cells v0 106 (0, 0)) := by rw [HV0.out]; exact hR2.2.2
      clear hT hb2 hr0 hr1 hR1 hv1
      go_wp2_with (refine wpList_store_row rfl 106 (.tmp 5) (.tmp 34) rfl _ v1 rfl rfl 106 _ hr2 (by rw [z1]; exact h8) (by rw [z0, z1]) o1 ?_)
      simp only [Act.put]
      have hR3 : RelD64 w st1 (w2.setRow (w.heap.size + 1) v1) := by rw [HV1.out]; exact hR2.setRow st1
      obtain ⟨w3, hw3⟩ : ∃ x, x = w2.setRow (w.heap.size + 1) v1 := ⟨_, rfl⟩
      rw [← hw3] at hR3 ⊢
      clear hw3 hR2 hr2
      have hdl : (bs.drop wh).length = len - wh := by rw [List.length_drop, hlen.out]
      have hdb : ∀ j, (bs.drop wh).getD j 0 < 256 := fun j => by
        have := hb256 (wh + j)
        simpa using this
      have hv3 : View w3.drew (cutA a wh cap) (bs.drop wh) := by
        have := ((hv.below hR3.1).cut wh (len - wh) cap (by rw [hlen.out]; omega) (by rw [hlen.out]; omega)).below (Below.refl _ _).drew
        rwa [List.take_of_length_le (by rw [hdl]; omega)] at this
      have hLB := lastBlocks64 (cutA a wh cap) (cap - wh) (bs.drop wh) len w3.drew (len - wh) hdl (by have := HWH.out; omega) hdb hv3 hlen2
      have hlast : (lastB sh64 (bs.drop wh) len).length ≤ 256 := by
        rw [lastB_len _ _ _ (by rw [hdl]; have := HWH.out; show len - wh ≤ 128; omega)]
        split <;> decide
      have hr3 : w3.drew.heap[w.heap.size + 1]? = some (.cells v1 106 (0, 0)) := by rw [HV1.out]; exact hR3.2.2
      refine wp_region_held (S := fun w' => w'.heap[w.heap.size]? = some (.cells shpA64 88 (0, 0))) (by kernel_rfl) ?_
      show wpAnyH _ _ _ _ _ 11 (Array.replicate 11 false) _ w3.drew
      refine take_at (i := 1) (some 36) _ rfl rfl (by kernel_rfl) (by kernel_rfl) (by kernel_rfl) (fun _ _ _ h => h) (yields_move rfl (.tmp 0) rfl) hR3.2.1 ?_
      simp only [Act.put, List.setIfInBounds_toArray, List.set_cons_succ, List.set_cons_zero]
      refine take_at (i := 2) (some 37) _ rfl rfl (by kernel_rfl) (by kernel_rfl) (by kernel_rfl) (fun _ _ _ h => h) (yields_move rfl (.tmp 7) rfl) hR3.2.1 ?_
      simp only [Act.put, List.setIfInBounds_toArray, List.set_cons_succ, List.set_cons_zero]
      refine take_at (i := 3) (some 38) _ rfl rfl (by kernel_rfl) (by kernel_rfl) (by kernel_rfl) (fun _ _ _ h => h) (yields_run (v := .slice (cutA a wh cap) (len - wh) (cap - wh)) rfl fun w' _ => Hrun_sliceO (run_cut_l a len cap wh w' hwl) rfl) hR3.2.1 ?_
      simp only [Act.put, List.setIfInBounds_toArray, List.set_cons_succ, List.set_cons_zero]
      refine take_at (i := 4) (some 39) _ rfl rfl (by kernel_rfl) (by kernel_rfl) (by kernel_rfl) (fun _ _ _ h => h) (yields_move rfl (.tmp 0) rfl) hR3.2.1 ?_
      simp only [Act.put, List.setIfInBounds_toArray, List.set_cons_succ, List.set_cons_zero]
      refine take_at (i := 5) (some 40) _ rfl rfl (by kernel_rfl) (by kernel_rfl) (by kernel_rfl) (fun _ _ _ h => h) (yields_run (v := .int .i64 (len : Int)) rfl fun w' _ => Hrun_lenO (a := a) (cap := cap) rfl rfl) hR3.2.1 ?_
      simp only [Act.put, List.setIfInBounds_toArray, List.set_cons_succ, List.set_cons_zero]
      refine take_at (i := 6) (some 41) _ rfl rfl (by kernel_rfl) (by kernel_rfl) (by kernel_rfl) (fun _ _ _ h => h) (yields_load_row rfl 88 (.tmp 3) rfl _ rfl 88 shpA64 (0, 0) _ (fun w' h => h) Tryd.underlying88 rfl h14) hR3.2.1 ?_
      simp only [Act.put, List.setIfInBounds_toArray, List.set_cons_succ, List.set_cons_zero]
      refine take_at (i := 8) (some 43) _ rfl rfl (by kernel_rfl) (by kernel_rfl) (by kernel_rfl) (fun _ _ _ h => h) (yields_load_row rfl 88 (.tmp 3) rfl _ rfl 88 shpA64 (0, 0) _ (fun w' h => h) Tryd.underlying88 rfl h14) hR3.2.1 ?_
      simp only [Act.put, List.setIfInBounds_toArray, List.set_cons_succ, List.set_cons_zero]
      refine two_at (i := 0) (j := 7) (by kernel_rfl) ?_ ?_
      · refine load_at (some 35) rfl rfl rfl 106 (.tmp 5) rfl (w.heap.size + 1) rfl 106 v1 (0, 0) _ hr3 Tryd.underlying106 rfl (by rw [z1]; exact h8) ?_
        refine ⟨hR3.2.1, ?_⟩
        simp only [Act.put, List.setIfInBounds_toArray, List.set_cons_succ, List.set_cons_zero]
        refine one_at (i := 7) (by kernel_rfl) ?_
        refine call_at (some 42) rfl rfl rfl 89 #[.slice (cutA a wh cap) (len - wh) (cap - wh), .int .i64 (len : Int), .agg shpA64] (R := fun v w' => ∃ g n, v = .slice (some ⟨g, 0, none⟩) n n ∧ n = (lastB sh64 (bs.drop wh) len).length ∧ Below w3.drew.heap.size w3.drew w' ∧ w'.heap[g]? = some (.cells (ints .u8 (lastB sh64 (bs.drop wh) len)) 5 (0, 0))) (by kernel_rfl) hLB ?_
        rintro v4 w4 ⟨g, n, rfl, hn, hb4, hg4⟩
        have hR4 : RelD64 w st1 w4 := RelD64.on (wr := w3.drew) ⟨hR3.1.drew, hR3.2.1, hR3.2.2⟩ hb4
        refine ⟨hR4.2.1, ?_⟩
        simp only [Act.put, List.setIfInBounds_toArray, List.set_cons_succ, List.set_cons_zero]
        have hT2 := takeBlocks64 st1 (some ⟨g, 0, none⟩) n n (lastB sh64 (bs.drop wh) len) ks w4 hl1 hs1 hn.symm (lastB_lt _ _ _ hdb) (Nat.le_refl _) (by rw [hn]; have := hlast; omega) (by rw [hn]; have := hlast; omega) (fun _ => ⟨g, 0, rfl, bytes_row hg4⟩) hkl hkb (hK.below hR4.1 h1B)
        rw [← HV1.out] at hT2
        obtain ⟨st2, hst2⟩ : ∃ x, x = blks sh64 ks st1 (lastB sh64 (bs.drop wh) len) (n / 128) := ⟨_, rfl⟩
        rw [← hst2] at hT2
        have hl2 : st2.length = 8 := by rw [hst2]; exact blks_len _ _ _ _ hl1 _
        obtain ⟨v2, hv2⟩ : ∃ x, x = ints .u64 st2 := ⟨_, rfl⟩
        have z2 : v2.size = 8 := by rw [hv2, ints_size, hl2]
        have o2 : v2.all (·.oneCell') = true := by rw [hv2]; exact ints_one _ _
        rw [← hv2] at hT2
        refine one_at (i := 9) (by kernel_rfl) ?_
        refine call_at (some 44) rfl rfl rfl 88 #[.agg v1, .slice (some ⟨g, 0, none⟩) n n, .agg shpA64] (R := fun v w' => v = .agg v2 ∧ Below w4.heap.size w4 w') (by kernel_rfl) (hT2.mono fun e w' h => ⟨_, h.1, rfl, h.2⟩) ?_
        rintro v5 w5 ⟨rfl, hb5⟩
        have hR5 := hR4.on hb5
        refine ⟨hR5.2.1, ?_⟩
        simp only [Act.put, List.setIfInBounds_toArray, List.set_cons_succ, List.set_cons_zero]
        have hr5 : w5.heap[w.heap.size + 1]? = some (.cells v1 106 (0, 0)) := by rw [HV1.out]; exact hR5.2.2
        refine one_at (i := 10) (by kernel_rfl) ?_
        refine store_at rfl rfl rfl 106 (.tmp 5) (.tmp 44) rfl (w.heap.size + 1) v2 rfl rfl 106 v1 hr5 (by rw [z2]; exact h8) (by rw [z1, z2]) o2 ?_
        have hR6 : RelD64 w st2 (w5.setRow (w.heap.size + 1) v2) := by rw [hv2]; exact hR5.setRow st2
        refine ⟨hR6.2.1, wpAnyH_done (by kernel_rfl) ?_ _⟩
        have HDIG : Hid (dig sh64 hs ks bs = stB 64 st2 8) := by
          show dig sh64 hs ks bs = _
          unfold dig
          rw [hst2, HST1.out, HST0.out, hn]
          have e1 : bs.length - bs.length % (2 * sh64.W) = wh := by rw [HWH.out, hlen.out]; rfl
          rw [e1, hlen.out]; rfl
        obtain ⟨w6, hw6⟩ : ∃ x, x = w5.setRow (w.heap.size + 1) v2 := ⟨_, rfl⟩
        rw [← hw6] at hR6 ⊢
        have HV2 : Hid (v2 = ints .u64 st2) := hv2
        clear hw6 hR5 hr5 hb5 hT2 hR4 hg4 hb4 hn hst2 hv2 hR3
        have h60 := hR6.2.1
        have h61 : w6.heap[w.heap.size + 1]? = some (.cells v2 106 (0, 0)) := by rw [HV2.out]; exact hR6.2.2
        go_wp2_with (first
          | (refine wpList_load_row rfl 88 (.tmp 3) rfl _ rfl 88 shpA64 (0, 0) _ h60 Tryd.underlying88 rfl h14 ?_)
          | (refine wpList_load_row rfl 106 (.tmp 5) rfl _ rfl 106 v2 (0, 0) _ h61 Tryd.underlying106 rfl (by rw [z2]; exact h8) ?_))
        rw [HV2.out]
        refine (stateBytes64 st2 w6 hl2).mono ?_
        rintro e w7 ⟨g7, rfl, hb7, ho7⟩
        go_wp2_with fail
        go_ret
        exact ⟨g7, w6.heap.size + 1 + 1, rfl, hR6.1.trans (hb7.mono hR6.1.size), by have := hR6.1.size; omega, by rw [HDIG.out]; exact ho7⟩
      · refine call_at (some 42) rfl rfl rfl 89 #[.slice (cutA a wh cap) (len - wh) (cap - wh), .int .i64 (len : Int), .agg shpA64] (R := fun v w' => ∃ g n, v = .slice (some ⟨g, 0, none⟩) n n ∧ n = (lastB sh64 (bs.drop wh) len).length ∧ Below w3.drew.heap.size w3.drew w' ∧ w'.heap[g]? = some (.cells (ints .u8 (lastB sh64 (bs.drop wh) len)) 5 (0, 0))) (by kernel_rfl) hLB ?_
        rintro v4 w4 ⟨g, n, rfl, hn, hb4, hg4⟩
        have hR4 : RelD64 w st1 w4 := RelD64.on (wr := w3.drew) ⟨hR3.1.drew, hR3.2.1, hR3.2.2⟩ hb4
        refine ⟨hR4.2.1, ?_⟩
        simp only [Act.put, List.setIfInBounds_toArray, List.set_cons_succ, List.set_cons_zero]
        have hr4 : w4.heap[w.heap.size + 1]? = some (.cells v1 106 (0, 0)) := by rw [HV1.out]; exact hR4.2.2
        refine one_at (i := 0) (by kernel_rfl) ?_
        refine load_at (some 35) rfl rfl rfl 106 (.tmp 5) rfl (w.heap.size + 1) rfl 106 v1 (0, 0) _ hr4 Tryd.underlying106 rfl (by rw [z1]; exact h8) ?_
        refine ⟨hR4.2.1, ?_⟩
        simp only [Act.put, List.setIfInBounds_toArray, List.set_cons_succ, List.set_cons_zero]
        have hT2 := takeBlocks64 st1 (some ⟨g, 0, none⟩) n n (lastB sh64 (bs.drop wh) len) ks w4 hl1 hs1 hn.symm (lastB_lt _ _ _ hdb) (Nat.le_refl _) (by rw [hn]; have := hlast; omega) (by rw [hn]; have := hlast; omega) (fun _ => ⟨g, 0, rfl, bytes_row hg4⟩) hkl hkb (hK.below hR4.1 h1B)
        rw [← HV1.out] at hT2
        obtain ⟨st2, hst2⟩ : ∃ x, x = blks sh64 ks st1 (lastB sh64 (bs.drop wh) len) (n / 128) := ⟨_, rfl⟩
        rw [← hst2] at hT2
        have hl2 : st2.length = 8 := by rw [hst2]; exact blks_len _ _ _ _ hl1 _
        obtain ⟨v2, hv2⟩ : ∃ x, x = ints .u64 st2 := ⟨_, rfl⟩
        have z2 : v2.size = 8 := by rw [hv2, ints_size, hl2]
        have o2 : v2.all (·.oneCell') = true := by rw [hv2]; exact ints_one _ _
        rw [← hv2] at hT2
        refine one_at (i := 9) (by kernel_rfl) ?_
        refine call_at (some 44) rfl rfl rfl 88 #[.agg v1, .slice (some ⟨g, 0, none⟩) n n, .agg shpA64] (R := fun v w' => v = .agg v2 ∧ Below w4.heap.size w4 w') (by kernel_rfl) (hT2.mono fun e w' h => ⟨_, h.1, rfl, h.2⟩) ?_
        rintro v5 w5 ⟨rfl, hb5⟩
        have hR5 := hR4.on hb5
        refine ⟨hR5.2.1, ?_⟩
        simp only [Act.put, List.setIfInBounds_toArray, List.set_cons_succ, List.set_cons_zero]
        have hr5 : w5.heap[w.heap.size + 1]? = some (.cells v1 106 (0, 0)) := by rw [HV1.out]; exact hR5.2.2
        refine one_at (i := 10) (by kernel_rfl) ?_
        refine store_at rfl rfl rfl 106 (.tmp 5) (.tmp 44) rfl (w.heap.size + 1) v2 rfl rfl 106 v1 hr5 (by rw [z2]; exact h8) (by rw [z1, z2]) o2 ?_
        have hR6 : RelD64 w st2 (w5.setRow (w.heap.size + 1) v2) := by rw [hv2]; exact hR5.setRow st2
        refine ⟨hR6.2.1, wpAnyH_done (by kernel_rfl) ?_ _⟩
        have HDIG : Hid (dig sh64 hs ks bs = stB 64 st2 8) := by
          show dig sh64 hs ks bs = _
          unfold dig
          rw [hst2, HST1.out, HST0.out, hn]
          have e1 : bs.length - bs.length % (2 * sh64.W) = wh := by rw [HWH.out, hlen.out]; rfl
          rw [e1, hlen.out]; rfl
        obtain ⟨w6, hw6⟩ : ∃ x, x = w5.setRow (w.heap.size + 1) v2 := ⟨_, rfl⟩
        rw [← hw6] at hR6 ⊢
        have HV2 : Hid (v2 = ints .u64 st2) := hv2
        clear hw6 hR5 hr5 hb5 hT2 hR4 hg4 hb4 hn hst2 hv2 hR3
        have h60 := hR6.2.1
        have h61 : w6.heap[w.heap.size + 1]? = some (.cells v2 106 (0, 0)) := by rw [HV2.out]; exact hR6.2.2
        go_wp2_with (first
          | (refine wpList_load_row rfl 88 (.tmp 3) rfl _ rfl 88 shpA64 (0, 0) _ h60 Tryd.underlying88 rfl h14 ?_)
          | (refine wpList_load_row rfl 106 (.tmp 5) rfl _ rfl 106 v2 (0, 0) _ h61 Tryd.underlying106 rfl (by rw [z2]; exact h8) ?_))
        rw [HV2.out]
        refine (stateBytes64 st2 w6 hl2).mono ?_
        rintro e w7 ⟨g7, rfl, hb7, ho7⟩
        go_wp2_with fail
        go_ret
        exact ⟨g7, w6.heap.size + 1 + 1, rfl, hR6.1.trans (hb7.mono hR6.1.size), by have := hR6.1.size; omega, by rw [HDIG.out]; exact ho7⟩
end Go.Proofs.YtabgihjffjlfiaaDoor
set_option linter.unusedVariables false
namespace Go.Proofs.YtabgihjffjlfiaaDoor
open Go.RowKit
def HS : List Nat := [7640891576956012808, 13503953896175478587, 4354685564936845355, 11912009170470909681, 5840696475078001361, 11170449401992604703, 2270897969802886507, 6620516959819538809]
def KS : List Nat := [4794697086780616226, 8158064640168781261, 13096744586834688815, 16840607885511220156, 4131703408338449720, 6480981068601479193, 10538285296894168987, 12329834152419229976, 15566598209576043074, 1334009975649890238, 2608012711638119052, 6128411473006802146, 8268148722764581231, 9286055187155687089, 11230858885718282805, 13951009754708518548, 16472876342353939154, 17275323862435702243, 1135362057144423861, 2597628984639134821, 3308224258029322869, 5365058923640841347, 6679025012923562964, 8573033837759648693, 10970295158949994411, 12119686244451234320, 12683024718118986047, 13788192230050041572, 14330467153632333762, 15395433587784984357, 489312712824947311, 1452737877330783856, 2861767655752347644, 3322285676063803686, 5560940570517711597, 5996557281743188959, 7280758554555802590, 8532644243296465576, 9350256976987008742, 10552545826968843579, 11727347734174303076, 12113106623233404929, 14000437183269869457, 14369950271660146224, 15101387698204529176, 15463397548674623760, 17586052441742319658, 1182934255886127544, 1847814050463011016, 2177327727835720531, 2830643537854262169, 3796741975233480872, 4115178125766777443, 5681478168544905931, 6601373596472566643, 7507060721942968483, 8399075790359081724, 8693463985226723168, 9568029438360202098, 10144078919501101548, 10430055236837252648, 11840083180663258601, 13761210420658862357, 14299343276471374635, 14566680578165727644, 15097957966210449927, 16922976911328602910, 17689382322260857208, 500013540394364858, 748580250866718886, 1242879168328830382, 1977374033974150939, 2944078676154940804, 3659926193048069267, 4368137639120453308, 4836135668995329356, 5532061633213252278, 6448918945643986474, 6902733635092675308, 7801388544844847127]
set_option maxRecDepth 100000
set_option maxHeartbeats 4000000
theorem dig256 : (dig sh32 HS KS []).take 4 = [0xe3, 0xb0, 0xc4, 0x42] := by kernel_rfl
theorem dig512 : (dig sh64 HS KS []).take 4 = [0xcf, 0x83, 0xe1, 0x35] := by kernel_rfl
end Go.Proofs.YtabgihjffjlfiaaDoor
set_option linter.unusedVariables false
namespace Go.Proofs.YtabgihjffjlfiaaDoor
open Go.RowKit Go.Sort Go.BigFrame
set_option maxRecDepth 100000
set_option maxHeartbeats 2000000
theorem same20 (a : Option Addr) (la ca : Nat) (x : List Nat) (b : Option Addr) (lb cb : Nat) (y : List Nat) (w : World) (hx : x.length = la) (hy : y.length = lb) (ha : View w a x) (hb : View w b y) :
    Calls Tryd.prog 53 #[.slice a la ca, .slice b lb cb] w fun e w' => e = .returned (.bool ((strOf x).toList == (strOf y).toList)) ∧ w' = w := by
  have h1 := toString_view (cap := ca) hx ha
  have h2 := toString_view (cap := cb) hy hb
  clear hx hy
  go_enter Tryd.func53, Tryd.ntmps53
  go_wp2
  go_ret
  exact ⟨rfl, rfl⟩
theorem equal15 (a : Option Addr) (la ca : Nat) (x : List Nat) (b : Option Addr) (lb cb : Nat) (y : List Nat) (w : World) (hx : x.length = la) (hy : y.length = lb) (ha : View w a x) (hb : View w b y) :
    Calls Tryd.prog 30 #[.slice a la ca, .slice b lb cb] w fun e w' => e = .returned (.bool ((strOf x).toList == (strOf y).toList)) ∧ w' = w := by
  go_enter Tryd.func30, Tryd.ntmps30
  go_wp2_with fail
  refine (same20 a la ca x b lb cb y w hx hy ha hb).mono ?_
  rintro e w' ⟨rfl, rfl⟩
  go_wp2
  go_ret
  exact ⟨rfl, rfl⟩
theorem HS_lt : ∀ j, HS.getD j 0 < 18446744073709551616 := fun j => by
  by_cases h : j < 8
  · have h8 : j = 0 ∨ j = 1 ∨ j = 2 ∨ j = 3 ∨ j = 4 ∨ j = 5 ∨ j = 6 ∨ j = 7 := by omega
    rcases h8 with rfl | rfl | rfl | rfl | rfl | rfl | rfl | rfl <;> decide
  · have : HS[j]? = none := List.getElem?_eq_none (by show 8 ≤ j; omega)
    rw [List.getD_eq_getElem?_getD, this]; decide
theorem KS_all : KS.all (fun x => decide (x < 18446744073709551616)) = true := by kernel_rfl
theorem KS_lt : ∀ j, KS.getD j 0 < 18446744073709551616 := fun j => by
  by_cases h : j < KS.length
  · rw [List.getD_eq_getElem?_getD, List.getElem?_eq_getElem h]
    have := List.all_eq_true.1 KS_all KS[j] (List.getElem_mem h)
    simpa using this
  · rw [List.getD_eq_getElem?_getD, List.getElem?_eq_none (by omega)]; decide
structure Tabs (w : World) : Prop where
  h : TabAt w 3 HS
  k : TabAt w 7 KS
theorem Tabs.below {w w' : World} (t : Tabs w) (hb : Below w.heap.size w w') : Tabs w' :=
  ⟨t.h.below hb (block_lt_of_cell (t.h 0 (by decide))), t.k.below hb (block_lt_of_cell (t.k 0 (by decide)))⟩
theorem sum512 (a : Option Addr) (len cap : Nat) (bs : List Nat) (w : World) (hlen : bs.length = len) (hb256 : ∀ j, bs.getD j 0 < 256) (hcap : len ≤ cap) (hcap2 : cap ≤ 9223372036854775807) (hlen2 : len ≤ 100000000000000) (hv : View w a bs) (ht : Tabs w) :
    Calls Tryd.prog 32 #[.slice a len cap] w fun e w' => ∃ g B, e = .returned (.slice (some ⟨g, 0, none⟩) 64 64) ∧ Below w.heap.size w w' ∧ w.heap.size ≤ B ∧ w'.ownsRow B 5 1 (.slice (some ⟨g, 0, none⟩) 64 64) 64 (Hbv (dig sh64 HS KS bs)) := by
  have hD := digest64 a len cap bs HS KS w hlen hb256 hcap hcap2 hlen2 hv rfl HS_lt ht.h rfl KS_lt ht.k
  clear hlen
  go_enter Tryd.func32, Tryd.ntmps32
  go_wp2_with fail
  refine hD.mono ?_
  rintro e w' ⟨g, B, rfl, hb, hB, ho⟩
  go_wp2
  go_ret
  exact ⟨g, B, rfl, hb, hB, ho⟩
theorem own_cell {w : World} {g B n : Nat} {l : List Nat} (h : w.ownsRow B 5 1 (.slice (some ⟨g, 0, none⟩) n n) n (Hbv l)) (j : Nat) (hj : j < n) (x : Nat) (hx : l[j]? = some x) : w.cell? ⟨g, j, none⟩ = some (.int .u8 (x : Int)) := by
  rw [h.cellAt j (by omega)]; simp [Hbv, hx]
theorem own_lt {w : World} {g B n : Nat} {l : List Nat} (h : w.ownsRow B 5 1 (.slice (some ⟨g, 0, none⟩) n n) n (Hbv l)) : B ≤ g ∧ g < w.heap.size := h.lt g rfl
theorem take4 {l : List Nat} {a b c d : Nat} (h : l.take 4 = [a, b, c, d]) : l[0]? = some a ∧ l[1]? = some b ∧ l[2]? = some c ∧ l[3]? = some d := by
  have e : ∀ j, j < 4 → l[j]? = (l.take 4)[j]? := fun j hj => by simp [hj]
  rw [e 0 (by omega), e 1 (by omega), e 2 (by omega), e 3 (by omega), h]
  exact ⟨rfl, rfl, rfl, rfl⟩
theorem d256 : (dig sh32 HS KS [])[0]? = some 0xe3 ∧ (dig sh32 HS KS [])[1]? = some 0xb0 ∧ (dig sh32 HS KS [])[2]? = some 0xc4 ∧ (dig sh32 HS KS [])[3]? = some 0x42 := take4 dig256
theorem d512 : (dig sh64 HS KS [])[0]? = some 0xcf ∧ (dig sh64 HS KS [])[1]? = some 0x83 ∧ (dig sh64 HS KS [])[2]? = some 0xe1 ∧ (dig sh64 HS KS [])[3]? = some 0x35 := take4 dig512
end Go.Proofs.YtabgihjffjlfiaaDoor
set_option linter.unusedVariables false
namespace Go.Proofs.YtabgihjffjlfiaaDoor
open Go.RowKit Go.Sort Go.BigFrame EN
set_option maxRecDepth 100000
set_option maxHeartbeats 2000000
structure TabA (w : World) : Prop where
  t : Tab w
  ts : Tabs w
  te : ETab w
theorem TabA.below {w w' : World} (t : TabA w) (hb : Below w.heap.size w w') : TabA w' := ⟨t.t.below hb, t.ts.below hb, t.te.below hb⟩
/-- With the numbers for roots. -/
def TabV (w : World) : Prop := TabA w ∧ Tab5 w
theorem TabV.below {w w' : World} (t : TabV w) (hb : Below w.heap.size w w') : TabV w' := ⟨t.1.below hb, t.2.below hb⟩
/-- The digest of 64 bytes. -/
def SH (l : List Nat) : List Nat := dig sh64 HS KS l
theorem wb_len' (W x : Nat) : ∀ n, (wb W x n).length = n
  | 0 => rfl
  | n + 1 => by unfold wb; rw [List.length_append, wb_len' W x n]; rfl
theorem wb_dig (W x : Nat) : ∀ n, Dig (wb W x n)
  | 0 => fun j => by simp [wb]
  | n + 1 => by
    unfold wb
    exact (wb_dig W x n).app (dig_lt (fun y hy => by rw [List.mem_singleton.1 hy]; omega))
theorem stB_len (W : Nat) (st : List Nat) : ∀ n, (stB W st n).length = W / 8 * n
  | 0 => rfl
  | n + 1 => by
    unfold stB
    rw [List.length_append, stB_len W st n, wb_len', Nat.mul_add, Nat.mul_one]
theorem stB_dig (W : Nat) (st : List Nat) : ∀ n, Dig (stB W st n)
  | 0 => fun j => by simp [stB]
  | n + 1 => by unfold stB; exact (stB_dig W st n).app (wb_dig _ _ _)
theorem SH_dig (l : List Nat) : Dig (SH l) := by
  unfold SH dig
  exact stB_dig _ _ _
theorem SH_len (l : List Nat) : (SH l).length = 64 := by
  unfold SH dig
  rw [stB_len]; rfl
theorem cSum512 {v : Value} {l : List Nat} (w : World) (hT : TabA w) (h : Bts l v w) (hd : Dig l) (hl : l.length ≤ 100000) : Ret 32 #[v] w (OwnC w.heap.size (SH l)) := by
  obtain ⟨a, cap, rfl, h1, h2, hv⟩ := h
  refine (sum512 a l.length cap l w rfl hd h1 h2 (by omega) hv hT.ts).mono ?_
  rintro e w' ⟨g, B, rfl, hB, hB2, ho⟩
  exact ⟨_, rfl, hB, OwnC.lo (own_C (SH_len l) (by omega) ho) hB2⟩
theorem cReduce {v : Value} {l : List Nat} (w : World) (hT : TabA w) (h : Bts l v w) (hd : Dig l) (hl : l.length ≤ 64) : Ret 33 #[v] w (Own w.heap.size (digs 32 (valD l % LL))) := by
  obtain ⟨a, cap, rfl, h1, h2, hv⟩ := h
  refine (reduce9 a l.length cap l w rfl h1 h2 hd hv hT.te).mono ?_
  rintro e w' ⟨v, rfl, gb, rfl, hg, hB, hr⟩
  rw [List.take_of_length_le hl] at hr
  exact ⟨_, rfl, hB, gb, by rw [digs_len], hg, hr⟩
theorem cMulAdd {v1 v2 v3 : Value} {x y z : List Nat} (w : World) (hT : TabA w) (hx : Bts x v1 w) (hy : Bts y v2 w) (hz : Bts z v3 w) (dx : Dig x) (dy : Dig y) (dz : Dig z) (lx : x.length = 32) (ly : y.length = 32) (lz : z.length = 32) :
    Ret 18 #[v1, v2, v3] w (Own w.heap.size (digs 32 ((valD x * valD y + valD z) % LL))) := by
  obtain ⟨a, ca, rfl, a1, a2, av⟩ := hx
  obtain ⟨b, cb, rfl, b1, b2, bv⟩ := hy
  obtain ⟨c, cc, rfl, c1, c2, cv⟩ := hz
  refine (mulAdd12 a x.length ca x b y.length cb y c z.length cc z w rfl rfl rfl a1 a2 b1 b2 c1 c2 dx dy dz av bv cv hT.te).mono ?_
  rintro e w' ⟨v, rfl, gb, rfl, hg, hB, hr⟩
  rw [List.take_of_length_le (by omega), List.take_of_length_le (by omega), List.take_of_length_le (by omega)] at hr
  exact ⟨_, rfl, hB, gb, by rw [digs_len], hg, hr⟩
theorem cIs {v : Value} {l : List Nat} (w : World) (hT : TabA w) (h : Bts l v w) (hd : Dig l) : Ret 25 #[v] w (Is (.bool (isL l))) := by
  obtain ⟨a, cap, rfl, h1, h2, hv⟩ := h
  exact (is14 a l.length cap l w rfl h1 h2 hd hv hT.te).mono fun e w' ⟨h, hB⟩ => ⟨_, h, hB, rfl⟩
theorem cEqual {v1 v2 : Value} {x y : List Nat} (w : World) (hx : Bts x v1 w) (hy : Bts y v2 w) (dx : Dig x) (dy : Dig y) : Ret 30 #[v1, v2] w (Is (.bool (decide (x = y)))) := by
  obtain ⟨a, ca, rfl, a1, a2, av⟩ := hx
  obtain ⟨b, cb, rfl, b1, b2, bv⟩ := hy
  refine (equal15 a x.length ca x b y.length cb y w rfl rfl av bv).mono fun e w' ⟨h, hB⟩ => ⟨_, h, hB ▸ Below.refl _ _, ?_⟩
  rw [strOf_eq dx dy]; rfl
/-- The first 32 bytes, and the next 32. -/
theorem halves24 (g off cap : Nat) (w : World) (h : 64 ≤ cap) (h2 : cap ≤ 9223372036854775807) : Calls Tryd.prog 24 #[.slice (some ⟨g, off, none⟩) 64 cap] w fun e w' =>
    e = .returned (.tuple #[.slice (some ⟨g, off, none⟩) 32 32, .slice (some ⟨g, off + 32, none⟩) 32 32]) ∧ Below w.heap.size w w' := by
  have hB : Below w.heap.size w w.drew := (Below.refl _ _).drew
  have hB0 : Below w.heap.size w w := Below.refl _ _
  go_enter Tryd.func24, Tryd.ntmps24
  go_wp2_with fail
  go_region
  go_wp2
  go_ret2
  exact ⟨rfl, hB⟩
theorem cBases {v : Value} {l : List Nat} (w : World) (hT : TabA w) (h : Bts l v w) (hd : Dig l) (hl : l.length ≤ 32) : Ret 14 #[v] w (Own w.heap.size (digs 32 (bp.nm (valD l)).enc)) := by
  unfold Ret
  go_enter Tryd.func14, Tryd.ntmps14
  go_wp2_with fail
  refine (cBase w hT.t).mono ?_
  rintro e w1 ⟨v1, rfl, hB1, hP1⟩
  go_wp2_with fail
  refine (cMulP w1 w1 (hT.below hB1).t hP1 (Bts.stb _ _ _ _ hB1 h) hd hl).mono ?_
  rintro e w2 ⟨v2, rfl, hB2, hP2⟩
  go_wp2_with fail
  refine (cPBytes w2 w2 hP2).mono ?_
  rintro e w3 ⟨v3, rfl, hB3, g, rfl, hg, hr⟩
  have hB12 := hB1.trans (hB2.mono hB1.size)
  have hB13 := hB12.trans (hB3.mono hB12.size)
  go_wp2
  go_ret
  exact ⟨_, rfl, hB13, g, rfl, by have := hB12.size; omega, hr⟩
end Go.Proofs.YtabgihjffjlfiaaDoor
set_option linter.unusedVariables false
namespace Go.Proofs.YtabgihjffjlfiaaDoor
open Go.RowKit Go.Sort Go.BigFrame EN
set_option maxRecDepth 100000
set_option maxHeartbeats 2000000
def sel {α : Type} (a b c : α) : Nat → α
  | 0 => a
  | 1 => b
  | _ => c
/-- What a slice of so many parts holds. -/
def Parts (n : Nat) (x y z : List Nat) (v : Value) (w : World) : Prop := ∃ g a b c na nb nc ca cb cc cs, v = .slice (some ⟨g, 0, none⟩) n n ∧ w.heap[g]? = some (.cells cs 22 (0, 0)) ∧
  (∀ k, k < n → cs[k]? = some (.slice (sel a b c k) (sel na nb nc k) (sel ca cb cc k))) ∧ Bts x (.slice a na ca) w ∧ Bts y (.slice b nb cb) w ∧ Bts z (.slice c nc cc) w
theorem Bts.parts {l : List Nat} {a : Option Addr} {n c : Nat} {w : World} (h : Bts l (.slice a n c) w) : l.length = n ∧ n ≤ c ∧ c ≤ 9223372036854775807 ∧ View w a l := by
  obtain ⟨a', c', h1, h2, h3, h4⟩ := h
  injection h1 with e1 e2 e3
  subst e1 e2 e3
  exact ⟨rfl, h2, h3, h4⟩
theorem concatP {n : Nat} {x y z : List Nat} {v : Value} (w : World) (hn : n ≤ 3) (h : Parts n x y z v w) (hl : (catL (sel x y z) n).length ≤ 100000) (h0 : 0 < (catL (sel x y z) n).length) :
    Ret 17 #[v] w (OwnC w.heap.size (catL (sel x y z) n)) := by
  obtain ⟨g, a, b, c, na, nb, nc, ca, cb, cc, cs, rfl, hg, hcs, hx, hy, hz⟩ := h
  obtain ⟨x1, x2, x3, x4⟩ := hx.parts
  obtain ⟨y1, y2, y3, y4⟩ := hy.parts
  obtain ⟨z1, z2, z3, z4⟩ := hz.parts
  refine concat17 g n (sel a b c) (sel na nb nc) (sel ca cb cc) (fun k => (catL (sel x y z) k).length) (sel x y z) w (by omega) ?_ (fun k => rfl) ?_ ?_ hl h0 ?_
  · intro k
    match k with
    | 0 => exact x1
    | 1 => exact y1
    | k + 2 => exact z1
  · intro k hk
    rw [cell_of_row w g k _ 22 _ hg]; exact hcs k hk
  · intro k hk
    match k with
    | 0 => exact ⟨x2, x3⟩
    | 1 => exact ⟨y2, y3⟩
    | k + 2 => exact ⟨z2, z3⟩
  · intro k hk
    match k with
    | 0 => exact x4
    | 1 => exact y4
    | k + 2 => exact z4
def numL (l : List Nat) : Nat := valD (SH l) % LL
theorem Parts.stb (n : Nat) (x y z : List Nat) : Stb (Parts n x y z) := fun _ _ _ hb ⟨g, a, b, c, na, nb, nc, ca, cb, cc, cs, h1, h2, h3, h4, h5, h6⟩ =>
  ⟨g, a, b, c, na, nb, nc, ca, cb, cc, cs, h1, block_below hb (lt_of_heap h2) h2, h3, Bts.stb _ _ _ _ hb h4, Bts.stb _ _ _ _ hb h5, Bts.stb _ _ _ _ hb h6⟩
theorem catL_dig {x y z : List Nat} (hx : Dig x) (hy : Dig y) (hz : Dig z) : ∀ n, Dig (catL (sel x y z) n)
  | 0 => fun j => by simp [catL]
  | n + 1 => by
    unfold catL
    refine (catL_dig hx hy hz n).app ?_
    match n with
    | 0 => exact hx
    | 1 => exact hy
    | k + 2 => exact hz
theorem numberP {n : Nat} {x y z : List Nat} {v : Value} (w : World) (hT : TabA w) (hn : n ≤ 3) (h : Parts n x y z v w) (hl : (catL (sel x y z) n).length ≤ 100000) (h0 : 0 < (catL (sel x y z) n).length) (dx : Dig x) (dy : Dig y) (dz : Dig z) :
    Ret 16 #[v] w (Own w.heap.size (digs 32 (numL (catL (sel x y z) n)))) := by
  unfold Ret
  have hC := concatP w hn h hl h0
  have hd := catL_dig dx dy dz n
  generalize catL (sel x y z) n = l at *
  go_enter Tryd.func16, Tryd.ntmps16
  go_wp2_with fail
  refine hC.mono ?_
  rintro e w1 ⟨v1, rfl, hB1, hP1⟩
  go_wp2_with fail
  refine (cSum512 w1 (hT.below hB1) hP1.bts hd hl).mono ?_
  rintro e w2 ⟨v2, rfl, hB2, hP2⟩
  have hB12 := hB1.trans (hB2.mono hB1.size)
  go_wp2_with fail
  refine (cReduce w2 (hT.below hB12) hP2.bts (SH_dig _) (by rw [SH_len]; omega)).mono ?_
  rintro e w3 ⟨v3, rfl, hB3, g3, rfl, hg3, hr3⟩
  have hB13 := hB12.trans (hB3.mono hB12.size)
  go_wp2
  go_ret
  exact ⟨_, rfl, hB13, g3, rfl, by have := hB12.size; omega, hr3⟩
/- the secret number and the prefix -/
def secr (d : List Nat) : List Nat := ((d.take 32).set 0 (d.getD 0 0 - d.getD 0 0 % 8)).set 31 (d.getD 31 0 % 64 + 64)
def SEC (s : List Nat) : List Nat := secr (SH s)
def PRE (s : List Nat) : List Nat := (SH s).drop 32
theorem SEC_len (s : List Nat) : (SEC s).length = 32 := by
  unfold SEC secr
  rw [List.length_set, List.length_set, List.length_take, SH_len]; rfl
theorem PRE_len (s : List Nat) : (PRE s).length = 32 := by
  unfold PRE
  rw [List.length_drop, SH_len]
theorem SEC_dig (s : List Nat) : Dig (SEC s) := by
  unfold SEC secr
  have h := SH_dig s
  exact ((h.take 32).set (by have := h 0; omega)).set (by omega)
theorem PRE_dig (s : List Nat) : Dig (PRE s) := (SH_dig s).drop 32
theorem andNot7 (x : Nat) (h : x < 256) : bits .andNot .u8 (x : Int) 7 = ((x - x % 8 : Nat) : Int) := by
  have : ∀ y < 256, bits .andNot .u8 ((y : Nat) : Int) 7 = ((y - y % 8 : Nat) : Int) := by decide
  exact this x h
theorem or64 (x : Nat) (h : x < 256) : bits .or .u8 ((x % 128 : Nat) : Int) 64 = ((x % 64 + 64 : Nat) : Int) := by
  have : ∀ y < 256, bits .or .u8 ((y % 128 : Nat) : Int) 64 = ((y % 64 + 64 : Nat) : Int) := by decide
  exact this x h
def KeyV (s p : List Nat) (v : Value) (w : World) : Prop := ∃ a b ca cb, v = .agg #[.slice a 32 ca, .slice b 32 cb] ∧ Bts s (.slice a 32 ca) w ∧ Bts p (.slice b 32 cb) w
theorem KeyV.stb (s p : List Nat) : Stb (KeyV s p) := fun _ _ _ hb ⟨a, b, c, d, h1, h2, h3⟩ => ⟨a, b, c, d, h1, Bts.stb _ _ _ _ hb h2, Bts.stb _ _ _ _ hb h3⟩
end Go.Proofs.YtabgihjffjlfiaaDoor
set_option linter.unusedVariables false
namespace Go.Proofs.YtabgihjffjlfiaaDoor
open Go.RowKit Go.Sort Go.BigFrame EN
set_option maxRecDepth 100000
set_option maxHeartbeats 2000000
theorem info34 : (Tryd.prog.info? 34).map (·.size) = some 2 := by kernel_rfl
theorem take_view {w : World} {g : Nat} {l : List Nat} (h : BytesAt w g 0 l) (k : Nat) (hk : k ≤ l.length) : BytesAt w g 0 (l.take k) := fun i hi => by
  rw [List.length_take] at hi
  rw [h i (by omega), List.getD_eq_getElem?_getD, List.getD_eq_getElem?_getD, List.getElem?_take_of_lt (by omega)]
theorem drop_view {w : World} {g : Nat} {l : List Nat} (h : BytesAt w g 0 l) (k : Nat) : BytesAt w g k (l.drop k) := fun i hi => by
  rw [List.length_drop] at hi
  have := h (k + i) (by omega)
  rw [Nat.zero_add] at this
  rw [this, List.getD_eq_getElem?_getD, List.getD_eq_getElem?_getD, List.getElem?_drop]
theorem cKeyOf {v : Value} {l : List Nat} (w : World) (hT : TabA w) (h : Bts l v w) (hd : Dig l) (hl : l.length ≤ 100000) : Ret 15 #[v] w (KeyV (SEC l) (PRE l)) := by
  obtain ⟨w1, hw1⟩ : ∃ w1, w1 = w.alloc (.cells #[.slice none 0 0, .slice none 0 0] 34) := ⟨_, rfl⟩
  have hB1 : Below w.heap.size w w1 := by rw [hw1]; exact below1 _ _
  have hb1 : w1.heap[w.heap.size]? = some (.cells #[.slice none 0 0, .slice none 0 0] 34 (0, 0)) := by rw [hw1]; exact heap_alloc_new _ _
  have hS := cSum512 w1 (hT.below hB1) (Bts.stb _ _ _ _ hB1 h) hd hl
  obtain ⟨D, hD⟩ : ∃ D, D = SH l := ⟨_, rfl⟩
  have hDl : D.length = 64 := by rw [hD]; exact SH_len l
  have hDd : Dig D := by rw [hD]; exact SH_dig l
  have HD : Hid (D = SH l) := hD
  rw [← hD] at hS
  clear hD
  unfold Ret
  go_enter Tryd.func15, Tryd.ntmps15
  go_wp2_with fail
  rw [← hw1]
  refine hS.mono ?_
  rintro e w2 ⟨v2, rfl, hB2, hO2⟩
  obtain ⟨g, cap, cur, rfl, hg, hrow, hc, hc2, hcur⟩ := hO2
  rw [hDl] at hc hcur ⊢
  have hsz := hB1.size
  have hl1 := lt_of_heap hb1
  have hb2 := block_below hB2 hl1 hb1
  go_wp2_with fail
  refine (halves24 g 0 cap w2 hc hc2).mono ?_
  rintro e w3 ⟨rfl, hB3⟩
  rw [Nat.zero_add]
  have hB13 : Below w.heap.size w w3 := hB1.trans ((hB2.mono hB1.size).trans (hB3.mono (by have := hB2.size; omega)))
  have hb3 := block_below hB3 (lt_of_heap hb2) hb2
  have hrow3 := block_below hB3 (lt_of_heap hrow) hrow
  clear hS hB2 hB3 hb2 hrow hb1 hB1 hw1
  obtain ⟨d0, hd0⟩ : ∃ d0, d0 = D.getD 0 0 := ⟨_, rfl⟩
  obtain ⟨d31, hd31⟩ : ∃ d31, d31 = D.getD 31 0 := ⟨_, rfl⟩
  have h0 : d0 < 256 := by rw [hd0]; exact hDd 0
  have h31 : d31 < 256 := by rw [hd31]; exact hDd 31
  have c0 := cell_of_row _ g 0 _ _ _ hrow3
  rw [hcur 0 (by omega), ← hd0] at c0
  have f0 := frozen_of_row _ g 0 _ _ hrow3
  have a7 := andNot7 d0 h0
  have a128 := andNot128 d31 h31
  have o64 := or64 d31 h31
  obtain ⟨e0, he0⟩ : ∃ e0, e0 = d0 - d0 % 8 := ⟨_, rfl⟩
  obtain ⟨m31, hm31⟩ : ∃ m31, m31 = d31 % 128 := ⟨_, rfl⟩
  obtain ⟨e31, he31⟩ : ∃ e31, e31 = d31 % 64 + 64 := ⟨_, rfl⟩
  rw [← he0] at a7
  rw [← hm31] at a128 o64
  rw [← he31] at o64
  obtain ⟨s1, s2⟩ := cur_set (l := D) hrow3 (by rw [hDl]; exact hcur) 0 e0 (by omega)
  have c31 := cell_of_row _ g 31 _ _ _ s1
  rw [s2 31 (by rw [List.length_set]; omega), getD_set2 _ _ _ _ (by omega), if_neg (by decide), ← hd31] at c31
  have f31 := frozen_of_row _ g 31 _ _ s1
  obtain ⟨t1, t2⟩ := cur_set (l := D.set 0 e0) s1 s2 31 e31 (by rw [List.length_set]; omega)
  have ng : w.heap.size ≠ g := by omega
  have hz4 := (heap_setCell_other w3 ⟨g, 0, none⟩ w.heap.size (.int .u8 (e0 : Int)) ng).trans hb3
  have hz5 := (heap_setCell_other (w3.setCell ⟨g, 0, none⟩ (.int .u8 (e0 : Int))) ⟨g, 31, none⟩ w.heap.size (.int .u8 (e31 : Int)) ng).trans hz4
  have hB5 := (hB13.setCell (p := ⟨g, 0, none⟩) (by show _ ≤ g; omega) (.int .u8 (e0 : Int))).setCell (p := ⟨g, 31, none⟩) (by show _ ≤ g; omega) (.int .u8 (e31 : Int))
  have HE : Hid (e0 = d0 - d0 % 8 ∧ d0 = D.getD 0 0 ∧ e31 = d31 % 64 + 64 ∧ d31 = D.getD 31 0) := ⟨he0, hd0, he31, hd31⟩
  have HT1 : Hid _ := t1
  have HT2 : Hid _ := t2
  have HB5 : Hid _ := hB5
  have HZ5 : Hid _ := hz5
  clear he0 hd0 he31 hd31 hm31 s1 s2 t1 t2 hB5 hz4 hz5
  have hz := HZ5.out
  go_wp2_with (refine wpList_store_row rfl 34 (.tmp 2) (.tmp 25) rfl _ (#[.slice (some ⟨g, 0, none⟩) 32 32, .slice (some ⟨g, 32, none⟩) 32 32]) rfl rfl 34 _ hz info34 rfl (by simp [Value.oneCell']) ?_)
  have hB6 := HB5.out
  have r6 := HT1.out
  have q6 := HT2.out
  clear HB5 HT1 HT2 HZ5 c0 f0 c31 f31 hb3 hrow3 hB13
  generalize (w3.setCell ⟨g, 0, none⟩ (.int .u8 (e0 : Int))).setCell ⟨g, 31, none⟩ (.int .u8 (e31 : Int)) = w5 at *
  have nf := setRow_heap w5 w.heap.size _ (#[.slice (some ⟨g, 0, none⟩) 32 32, .slice (some ⟨g, 32, none⟩) 32 32]) _ _ hz
  have hB7 := setRow_below hB6 (Nat.le_refl _) (#[.slice (some ⟨g, 0, none⟩) 32 32, .slice (some ⟨g, 32, none⟩) 32 32])
  have r7 := (setRow_other w5 w.heap.size g (#[.slice (some ⟨g, 0, none⟩) 32 32, .slice (some ⟨g, 32, none⟩) 32 32]) (Ne.symm ng)).trans r6
  generalize w5.setRow w.heap.size #[.slice (some ⟨g, 0, none⟩) 32 32, .slice (some ⟨g, 32, none⟩) 32 32] = w7 at *
  have hl2 : ((D.set 0 e0).set 31 e31).length = 64 := by rw [List.length_set, List.length_set]; exact hDl
  have hv := bytesAt_cur r7 q6
  obtain ⟨x1, x2, x3, x4⟩ := HE.out
  have hS1 : SEC l = ((D.set 0 e0).set 31 e31).take 32 := by
    unfold SEC secr
    rw [← HD.out, ← x2, ← x4, ← x1, ← x3, List.take_set, List.take_set]
  have hP1 : PRE l = ((D.set 0 e0).set 31 e31).drop 32 := by
    unfold PRE
    rw [← HD.out, List.drop_set_of_lt (by decide), List.drop_set_of_lt (by decide)]
  refine bodyPost_ret (v := .agg (#[.slice (some ⟨g, 0, none⟩) 32 32, .slice (some ⟨g, 32, none⟩) 32 32])) ?_ rfl ⟨_, rfl, hB7, some ⟨g, 0, none⟩, some ⟨g, 32, none⟩, 32, 32, rfl, ⟨some ⟨g, 0, none⟩, 32, by rw [SEC_len], by rw [SEC_len]; omega, by decide, fun _ => ⟨g, 0, rfl, ?_⟩⟩, ⟨some ⟨g, 32, none⟩, 32, by rw [PRE_len], by rw [PRE_len]; omega, by decide, fun _ => ⟨g, 32, rfl, ?_⟩⟩⟩
  · exact results_cell_row Tryd.results15 _ _ _ 34 _ (0, 0) _ rfl nf Tryd.underlying34 rfl info34
  · rw [hS1]; exact take_view hv 32 (by omega)
  · rw [hP1]; exact drop_view hv 32
end Go.Proofs.YtabgihjffjlfiaaDoor
set_option linter.unusedVariables false
namespace Go.Proofs.YtabgihjffjlfiaaDoor
open Go.RowKit Go.Sort Go.BigFrame EN
set_option maxRecDepth 100000
set_option maxHeartbeats 2000000
def PT (s : List Nat) : Pt := bp.nm (valD (SEC s))
def PUB (s : List Nat) : List Nat := digs 32 (PT s).enc
def RN (s m : List Nat) : Nat := numL (PRE s ++ m)
def RB (s m : List Nat) : List Nat := digs 32 (bp.nm (RN s m)).enc
def KN (s m : List Nat) : Nat := numL (RB s m ++ PUB s ++ m)
def SN (s m : List Nat) : Nat := (KN s m * valD (SEC s) + RN s m) % LL
def SIG (s m : List Nat) : List Nat := RB s m ++ digs 32 (SN s m)
theorem cPublic {v : Value} {l : List Nat} (w : World) (hT : TabA w) (h : Bts l v w) (hd : Dig l) (hl : l.length = 32) : Ret 8 #[v] w (Tup2 (Own w.heap.size (PUB l)) (Is (.int .i64 0))) := by
  have hK := cKeyOf w hT h hd (by omega)
  obtain ⟨a, cap, rfl, h1, h2, hv⟩ := h
  rw [hl] at hK ⊢
  unfold Ret
  go_enter Tryd.func8, Tryd.ntmps8
  go_wp2_with fail
  refine hK.mono ?_
  rintro e w1 ⟨v1, rfl, hB1, a1, b1, ca, cb, rfl, hs, hp⟩
  have hf : (Instr.field 34 (.agg #[.slice a1 32 ca, .slice b1 32 cb]) 0).run Tryd.prog w1 = .ok (.slice a1 32 ca) w1 := by kernel_rfl
  have hC := cBases w1 (hT.below hB1) hs (SEC_dig _) (by rw [SEC_len]; omega)
  go_wp2_with fail
  refine hC.mono ?_
  rintro e w2 ⟨v2, rfl, hB2, g, rfl, hg, hr⟩
  have hB := hB1.trans (hB2.mono hB1.size)
  go_wp2
  go_ret2
  exact ⟨_, rfl, hB, _, _, rfl, ⟨g, rfl, by have := hB1.size; omega, hr⟩, rfl⟩
theorem cPublicNo (a : Option Addr) (len cap : Nat) (w : World) (h : len ≠ 32) : Ret 8 #[.slice a len cap] w (Tup2 (Is (.slice none 0 0)) (Is (.int .i64 1))) := by
  have hne : ((len : Int) ≠ 32) := by omega
  have hB : Below w.heap.size w w := Below.refl _ _
  unfold Ret
  go_enter Tryd.func8, Tryd.ntmps8
  go_wp2
  go_ret2
  exact ⟨_, rfl, hB, _, _, rfl, rfl, rfl⟩
theorem cSignNo (a : Option Addr) (len cap : Nat) (v2 : Value) (w : World) (h : len ≠ 32) : Ret 9 #[.slice a len cap, v2] w (Tup2 (Is (.slice none 0 0)) (Is (.int .i64 1))) := by
  have hne : ((len : Int) ≠ 32) := by omega
  have hB : Below w.heap.size w w := Below.refl _ _
  unfold Ret
  go_enter Tryd.func9, Tryd.ntmps9
  go_wp2
  go_ret2
  exact ⟨_, rfl, hB, _, _, rfl, rfl, rfl⟩
theorem Bts.form {l : List Nat} {v : Value} {w : World} (h : Bts l v w) : ∃ a c, v = .slice a l.length c := by
  obtain ⟨a, c, h1, _⟩ := h; exact ⟨a, c, h1⟩
theorem parts2 {x y : List Nat} {v1 v2 : Value} {w : World} (hx : Bts x v1 w) (hy : Bts y v2 w) : Parts 2 x y [] (.slice (some ⟨w.heap.size, 0, none⟩) 2 2) (w.alloc (.cells #[v1, v2] 22)) := by
  obtain ⟨a, ca, rfl⟩ := hx.form
  obtain ⟨b, cb, rfl⟩ := hy.form
  refine ⟨_, a, b, none, _, _, 0, ca, cb, 0, _, rfl, heap_alloc_new _ _, ?_, Bts.stb _ _ _ _ (below1 _ _) hx, Bts.stb _ _ _ _ (below1 _ _) hy, ⟨none, 0, rfl, Nat.le_refl _, by decide, fun h => absurd h (by simp)⟩⟩
  intro k hk
  match k, hk with
  | 0, _ => rfl
  | 1, _ => rfl
theorem parts3 {x y z : List Nat} {v1 v2 v3 : Value} {w : World} (hx : Bts x v1 w) (hy : Bts y v2 w) (hz : Bts z v3 w) : Parts 3 x y z (.slice (some ⟨w.heap.size, 0, none⟩) 3 3) (w.alloc (.cells #[v1, v2, v3] 22)) := by
  obtain ⟨a, ca, rfl⟩ := hx.form
  obtain ⟨b, cb, rfl⟩ := hy.form
  obtain ⟨c, cc, rfl⟩ := hz.form
  refine ⟨_, a, b, c, _, _, _, ca, cb, cc, _, rfl, heap_alloc_new _ _, ?_, Bts.stb _ _ _ _ (below1 _ _) hx, Bts.stb _ _ _ _ (below1 _ _) hy, Bts.stb _ _ _ _ (below1 _ _) hz⟩
  intro k hk
  match k, hk with
  | 0, _ => rfl
  | 1, _ => rfl
  | 2, _ => rfl
theorem cat2 (x y z : List Nat) : catL (sel x y z) 2 = x ++ y := by simp [catL, sel]
theorem cat3 (x y z : List Nat) : catL (sel x y z) 3 = x ++ y ++ z := by simp [catL, sel]
/-- A call that begins with a new block. -/
theorem Ret.box {f : FuncId} {args : Array Value} {w : World} {o : Obj} {R : Value → World → Prop} (h : Ret f args (w.alloc o) R) : Calls Tryd.prog f args (w.alloc o) fun e w' => ∃ v, e = .returned v ∧ Below w.heap.size w w' ∧ R v w' :=
  h.mono fun e w' ⟨v, he, hB, hR⟩ => ⟨v, he, (below1 w o).trans (hB.mono (by simp)), hR⟩
theorem number2 {x y : List Nat} {v1 v2 : Value} (w : World) (gg : Nat) (hgg : gg = w.heap.size) (hT : TabA w) (hx : Bts x v1 w) (hy : Bts y v2 w) (dx : Dig x) (dy : Dig y) (h0 : 0 < x.length) (hl : x.length + y.length ≤ 100000) :
    Calls Tryd.prog 16 #[.slice (some ⟨gg, 0, none⟩) 2 2] (w.alloc (.cells #[v1, v2] 22)) fun e w' => ∃ v, e = .returned v ∧ Below w.heap.size w w' ∧ Own w.heap.size (digs 32 (numL (x ++ y))) v w' := by
  subst hgg
  have h := numberP (w.alloc (.cells #[v1, v2] 22)) (hT.below (below1 _ _)) (by omega) (parts2 hx hy) (by rw [cat2, List.length_append]; omega) (by rw [cat2, List.length_append]; omega) dx dy (fun j => by simp)
  rw [cat2] at h
  exact h.box.mono fun e w' ⟨v, h1, h2, g, h3, h4, h5⟩ => ⟨v, h1, h2, g, h3, by simp at h4; omega, h5⟩
theorem number3 {x y z : List Nat} {v1 v2 v3 : Value} (w : World) (gg : Nat) (hgg : gg = w.heap.size) (hT : TabA w) (hx : Bts x v1 w) (hy : Bts y v2 w) (hz : Bts z v3 w) (dx : Dig x) (dy : Dig y) (dz : Dig z) (h0 : 0 < x.length) (hl : x.length + y.length + z.length ≤ 100000) :
    Calls Tryd.prog 16 #[.slice (some ⟨gg, 0, none⟩) 3 3] (w.alloc (.cells #[v1, v2, v3] 22)) fun e w' => ∃ v, e = .returned v ∧ Below w.heap.size w w' ∧ Own w.heap.size (digs 32 (numL (x ++ y ++ z))) v w' := by
  subst hgg
  have h := numberP (w.alloc (.cells #[v1, v2, v3] 22)) (hT.below (below1 _ _)) (by omega) (parts3 hx hy hz) (by rw [cat3, List.length_append, List.length_append]; omega) (by rw [cat3, List.length_append, List.length_append]; omega) dx dy dz
  rw [cat3] at h
  exact h.box.mono fun e w' ⟨v, h1, h2, g, h3, h4, h5⟩ => ⟨v, h1, h2, g, h3, by simp at h4; omega, h5⟩
theorem concat2 {x y : List Nat} {v1 v2 : Value} (w : World) (gg : Nat) (hgg : gg = w.heap.size) (hx : Bts x v1 w) (hy : Bts y v2 w) (h0 : 0 < x.length) (hl : x.length + y.length ≤ 100000) :
    Calls Tryd.prog 17 #[.slice (some ⟨gg, 0, none⟩) 2 2] (w.alloc (.cells #[v1, v2] 22)) fun e w' => ∃ v, e = .returned v ∧ Below w.heap.size w w' ∧ OwnC w.heap.size (x ++ y) v w' := by
  subst hgg
  have h := concatP (w.alloc (.cells #[v1, v2] 22)) (by omega) (parts2 hx hy) (by rw [cat2, List.length_append]; omega) (by rw [cat2, List.length_append]; omega)
  rw [cat2] at h
  exact h.box.mono fun e w' ⟨v, h1, h2, h3⟩ => ⟨v, h1, h2, h3.lo (by simp)⟩
theorem cSign {v vm : Value} {l m : List Nat} (w : World) (hT : TabA w) (h : Bts l v w) (hm : Bts m vm w) (hd : Dig l) (hl : l.length = 32) (dm : Dig m) (lm : m.length ≤ 50000) : Ret 9 #[v, vm] w (Tup2 (OwnC w.heap.size (SIG l m)) (Is (.int .i64 0))) := by
  have hK := cKeyOf w hT h hd (by omega)
  obtain ⟨a, cap, rfl, h1, h2, hv⟩ := h
  rw [hl] at hK ⊢
  obtain ⟨am, cm, rfl⟩ := hm.form
  unfold Ret
  go_enter Tryd.func9, Tryd.ntmps9
  go_wp2_with fail
  refine hK.mono ?_
  rintro e w1 ⟨v1, rfl, hB1, a1, b1, ca, cb, rfl, hs, hp⟩
  have hz : (w1.alloc (.cells #[.slice none 0 0, .slice none 0 0] 34)).heap[w1.heap.size]? = some (.cells #[.slice none 0 0, .slice none 0 0] 34 (0, 0)) := heap_alloc_new _ _
  obtain ⟨w3, hw3⟩ : ∃ w3, w3 = (w1.alloc (.cells #[.slice none 0 0, .slice none 0 0] 34)).setRow w1.heap.size #[.slice a1 32 ca, .slice b1 32 cb] := ⟨_, rfl⟩
  have hB3 : Below w1.heap.size w1 w3 := by rw [hw3]; exact setRow_below (below1 _ _) (Nat.le_refl _) _
  have nf : w3.heap[w1.heap.size]? = some (.cells #[.slice a1 32 ca, .slice b1 32 cb] 34 (0, 0)) := by rw [hw3]; exact setRow_heap _ w1.heap.size _ _ _ _ hz
  have q0 := cell_of_row _ w1.heap.size 0 _ _ _ nf
  have q1 := cell_of_row _ w1.heap.size 1 _ _ _ nf
  rw [show (#[Value.slice a1 32 ca, Value.slice b1 32 cb])[0]? = some (.slice a1 32 ca) from rfl] at q0
  rw [show (#[Value.slice a1 32 ca, Value.slice b1 32 cb])[1]? = some (.slice b1 32 cb) from rfl] at q1
  have qe := q1
  rw [hw3] at qe
  have hB13 : Below w.heap.size w w3 := hB1.trans (hB3.mono hB1.size)
  have hT3 := hT.below hB13
  have hs3 := Bts.stb _ _ _ _ hB3 hs
  have hp3 := Bts.stb _ _ _ _ hB3 hp
  have hm3 := Bts.stb _ _ _ _ hB13 hm
  have hz3 : w3.heap.size = w1.heap.size + 1 := by rw [hw3, setRow_size]; simp
  have HW3 : Hid _ := hw3
  have HZ3 : Hid _ := hz3
  clear hw3 hz3 hK hv
  go_wp2_with (refine wpList_store_row rfl 34 (.tmp 6) (.tmp 14) rfl _ (#[.slice a1 32 ca, .slice b1 32 cb]) rfl rfl 34 _ hz info34 rfl (by simp [Value.oneCell']) ?_)
  rw [← HW3.out]
  refine (number2 w3 (w1.heap.size + 1) HZ3.out.symm hT3 hp3 hm3 (PRE_dig l) dm (by rw [PRE_len]; omega) (by rw [PRE_len]; omega)).mono ?_
  rintro e w4 ⟨v4, rfl, hB4, g4, rfl, hg4, hr4⟩
  have hR4 : Bts (digs 32 (RN l m)) (.slice (some ⟨g4, 0, none⟩) 32 32) w4 := Own.bts ⟨g4, by rw [digs_len], hg4, hr4⟩ (by rw [digs_len]; omega)
  rw [digs_len]
  have hB14 := hB13.trans (hB4.mono hB13.size)
  have hC5 := cBases w4 (hT3.below hB4) hR4 (digs_dig _ _) (by rw [digs_len]; omega)
  rw [valD_digs_lt (show RN l m < 256 ^ 32 from Nat.lt_trans (Nat.mod_lt _ LL_pos) (by decide))] at hC5
  go_wp2_with fail
  refine hC5.mono ?_
  rintro e w5 ⟨v5, rfl, hB5, g5, rfl, hg5, hr5⟩
  have hH5 : Bts (RB l m) (.slice (some ⟨g5, 0, none⟩) 32 32) w5 := Own.bts ⟨g5, by unfold RB; rw [digs_len], hg5, hr5⟩ (by unfold RB; rw [digs_len]; omega)
  rw [digs_len]
  have hB35 := hB4.trans (hB5.mono hB4.size)
  have hT5 := hT3.below hB35
  have hs5 := Bts.stb _ _ _ _ hB35 hs3
  have p0 := (hB35.cell (p := ⟨w1.heap.size, 0, none⟩) (by have := HZ3.out; show w1.heap.size < _; omega)).trans q0
  have hC6 := cBases w5 hT5 hs5 (SEC_dig l) (by rw [SEC_len]; omega)
  go_wp2_with fail
  refine hC6.mono ?_
  rintro e w6 ⟨v6, rfl, hB6, g6, rfl, hg6, hr6⟩
  have hP6 : Bts (PUB l) (.slice (some ⟨g6, 0, none⟩) 32 32) w6 := Own.bts ⟨g6, by unfold PUB; rw [digs_len], hg6, hr6⟩ (by unfold PUB; rw [digs_len]; omega)
  rw [digs_len]
  have hB36 := hB35.trans (hB6.mono hB35.size)
  have lRB : (RB l m).length = 32 := by unfold RB; rw [digs_len]
  have lPUB : (PUB l).length = 32 := by unfold PUB; rw [digs_len]
  have hC7 := number3 w6 w6.heap.size rfl (hT3.below hB36) (Bts.stb _ _ _ _ hB6 hH5) hP6 (Bts.stb _ _ _ _ hB36 hm3) (digs_dig _ _) (digs_dig _ _) dm (by omega) (by omega)
  go_wp2_with fail
  refine hC7.mono ?_
  rintro e w7 ⟨v7, rfl, hB7, g7, rfl, hg7, hr7⟩
  have hK7 : Bts (digs 32 (KN l m)) (.slice (some ⟨g7, 0, none⟩) 32 32) w7 := Own.bts ⟨g7, by rw [digs_len], hg7, hr7⟩ (by rw [digs_len]; omega)
  rw [digs_len]
  have hB37 := hB36.trans (hB7.mono hB36.size)
  have hB47 := (hB5.trans (hB6.mono hB5.size)).trans (hB7.mono (by have := hB5.size; have := hB6.size; omega))
  have hB57 := hB6.trans (hB7.mono hB6.size)
  have p7 := (hB37.cell (p := ⟨w1.heap.size, 0, none⟩) (by have := HZ3.out; show w1.heap.size < _; omega)).trans q0
  have hC8 := cMulAdd w7 (hT3.below hB37) hK7 (Bts.stb _ _ _ _ hB37 hs3) (Bts.stb _ _ _ _ hB47 hR4) (digs_dig _ _) (SEC_dig l) (digs_dig _ _) (digs_len _ _) (SEC_len l) (digs_len _ _)
  rw [valD_digs_lt (show RN l m < 256 ^ 32 from Nat.lt_trans (Nat.mod_lt _ LL_pos) (by decide)), valD_digs_lt (show KN l m < 256 ^ 32 from Nat.lt_trans (Nat.mod_lt _ LL_pos) (by decide))] at hC8
  go_wp2_with fail
  refine hC8.mono ?_
  rintro e w8 ⟨v8, rfl, hB8, g8, rfl, hg8, hr8⟩
  have hS8 : Bts (digs 32 (SN l m)) (.slice (some ⟨g8, 0, none⟩) 32 32) w8 := Own.bts ⟨g8, by rw [digs_len], hg8, hr8⟩ (by rw [digs_len]; omega)
  rw [digs_len]
  have hB38 := hB37.trans (hB8.mono hB37.size)
  have hC9 := concat2 w8 w8.heap.size rfl (Bts.stb _ _ _ _ (hB57.trans (hB8.mono hB57.size)) hH5) hS8 (by omega) (by rw [digs_len]; omega)
  have hB18 := hB13.trans (hB38.mono hB13.size)
  go_wp2_with fail
  refine hC9.mono ?_
  rintro e w9 ⟨v9, rfl, hB9, hO9⟩
  have hB19 := hB18.trans (hB9.mono hB18.size)
  have hO := hO9.lo hB18.size
  clear hO9
  go_wp2
  go_ret2
  exact ⟨_, rfl, hB19, _, _, rfl, hO, rfl⟩
end Go.Proofs.YtabgihjffjlfiaaDoor
set_option linter.unusedVariables false
namespace Go.Proofs.YtabgihjffjlfiaaDoor
open Go.RowKit Go.Sort Go.BigFrame
set_option maxRecDepth 100000
set_option maxHeartbeats 2000000
section
variable {ρ : Operand → Value} {o : Oper} {x y z t : Operand} {w : World}
theorem run_idx22 {g off n cap i : Nat} (ho : o.op = .indexAddr 22 x y) (hx : ρ x = .slice (some ⟨g, off, none⟩) n cap) (hy : ρ y = .int .i64 (i : Int)) (hi : i < n) : (execOp ρ o).run Tryd.prog w = .ok (.value (.pointer (some ⟨g, off + i, none⟩))) w := by
  simp [execOp, ho, hx, hy, go_sem, hi]
theorem run_idx33 {g off n cap i : Nat} (ho : o.op = .indexAddr 41 x y) (hx : ρ x = .slice (some ⟨g, off, none⟩) n cap) (hy : ρ y = .int .i64 (i : Int)) (hi : i < n) : (execOp ρ o).run Tryd.prog w = .ok (.value (.pointer (some ⟨g, off + i, none⟩))) w := by
  simp [execOp, ho, hx, hy, go_sem, hi]
theorem run_load5 {p : Addr} {n : Int} (ho : o.op = .load 5 x) (hx : ρ x = .pointer (some p)) (hc : w.cell? p = some (.int .u8 n)) : (execOp ρ o).run Tryd.prog w = .ok (.value (.int .u8 n)) w := by
  simp [execOp, ho, hx, go_sem, hc, Instr.loadAt, Instr.sureAddr]
theorem run_load3 {p : Addr} {n : Int} (ho : o.op = .load 3 x) (hx : ρ x = .pointer (some p)) (hc : w.cell? p = some (.int .i64 n)) : (execOp ρ o).run Tryd.prog w = .ok (.value (.int .i64 n)) w := by
  simp [execOp, ho, hx, go_sem, hc, Instr.loadAt, Instr.sureAddr]
theorem cell_val {g t : Nat} {k : IntKind} {l : List Nat} {v : Nat} (h : w.heap[g]? = some (.cells (ints k l) t (0, 0))) (i : Nat) (hi : i < l.length) (hv : l.getD i 0 = v) : w.cell? ⟨g, i, none⟩ = some (.int k (v : Int)) := by
  rw [← hv]; exact cell_ints h i hi
theorem dSlice1 {lo n : Nat} (hlo : lo ≤ w.heap.size) (ho : o.op = .buildSlice 22 1 #[(0, x)]) (hx : ρ x = .int .u8 (n : Int)) : Does Tryd.prog o ρ w (fun v w' => Below w.heap.size w w' ∧ Own lo [n] v w') :=
  Does.new (.slice (some ⟨w.heap.size, 0, none⟩) 1 1) (.cells #[.int .u8 (n : Int)] 5) (by simp only [execOp, ho, List.map_toArray, List.map, hx]; kernel_rfl) ⟨_, rfl, hlo, heap_alloc_new _ _⟩
end
theorem bp_b0 : (digs 32 bp.enc).getD 0 0 = 88 := by decide
theorem bp_b1 : (digs 32 bp.enc).getD 1 0 = 102 := by decide
theorem bp_b31 : (digs 32 bp.enc).getD 31 0 = 102 := by decide
end Go.Proofs.YtabgihjffjlfiaaDoor
set_option linter.unusedVariables false
namespace Go.Proofs.YtabgihjffjlfiaaDoor
open Go.RowKit Go.Sort Go.BigFrame EN
set_option maxRecDepth 100000
set_option maxHeartbeats 2000000
theorem cHalves {v : Value} {l : List Nat} (w : World) (h : Bts l v w) (hl : l.length = 64) : Ret 24 #[v] w (Tup2 (Bts (l.take 32)) (Bts (l.drop 32))) := by
  obtain ⟨a, cap, rfl, h1, h2, hv⟩ := h
  obtain ⟨g, off, rfl, hb⟩ := hv (by omega)
  rw [hl] at h1 ⊢
  refine (halves24 g off cap w h1 h2).mono ?_
  rintro e w' ⟨rfl, hB⟩
  have hv' := hv.below hB
  refine ⟨_, rfl, hB, _, _, rfl, ⟨_, 32, by rw [List.length_take]; congr 1; omega, by rw [List.length_take]; omega, by decide, fun _ => ⟨g, off, rfl, fun i hi => ?_⟩⟩, ⟨_, 32, by rw [List.length_drop, hl], by rw [List.length_drop]; omega, by decide, fun _ => ⟨g, off + 32, rfl, fun i hi => ?_⟩⟩⟩
  · obtain ⟨g', off', e, hb'⟩ := hv' (by omega)
    injection e with e; injection e with e1 e2; subst e1 e2
    rw [List.length_take] at hi
    rw [hb' i (by omega), List.getD_eq_getElem?_getD, List.getD_eq_getElem?_getD, List.getElem?_take_of_lt (by omega)]
  · obtain ⟨g', off', e, hb'⟩ := hv' (by omega)
    injection e with e; injection e with e1 e2; subst e1 e2
    rw [List.length_drop] at hi
    rw [show off + 32 + i = off + (32 + i) by omega, hb' (32 + i) (by omega), List.getD_eq_getElem?_getD, List.getD_eq_getElem?_getD, List.getElem?_drop]
section
variable {ρ : Operand → Value} {o : Oper} {x y z t : Operand} {w : World}
theorem dLenB {l : List Nat} {n : Nat} (hn : l.length = n) (ho : o.op = .call { callee := .builtin .len, args := #[x], argTypes := #[22] }) (h : Bts l (ρ x) w) : Does Tryd.prog o ρ w (fun v w' => Below w.heap.size w w' ∧ Is (.int .i64 (n : Int)) v w') := by
  obtain ⟨a, c, h1, _⟩ := h
  rw [hn] at h1
  exact Does.run _ (run_lenO ho h1) rfl
theorem run_neqN {n k : Nat} (h : n ≠ k) (ho : o.op = .binOp .neq 3 x y 3) (hx : ρ x = .int .i64 (n : Int)) (hy : ρ y = .int .i64 (k : Int)) : (execOp ρ o).run Tryd.prog w = .ok (.value (.bool true)) w := by
  have h2 : (n : Int) ≠ (k : Int) := by omega
  simp [execOp, ho, hx, hy, go_sem, h2]
theorem dParts2 {a b : List Nat} (ho : o.op = .buildSlice 58 2 #[(0, x), (1, y)]) (hx : Bts a (ρ x) w) (hy : Bts b (ρ y) w) : Does Tryd.prog o ρ w (fun v w' => Below w.heap.size w w' ∧ Parts 2 a b [] v w') := by
  refine Does.new (.slice (some ⟨w.heap.size, 0, none⟩) 2 2) (.cells #[ρ x, ρ y] 22) ?_ (parts2 hx hy)
  obtain ⟨a1, c1, e1⟩ := hx.form
  obtain ⟨a2, c2, e2⟩ := hy.form
  simp only [execOp, ho, List.map_toArray, List.map, e1, e2]; kernel_rfl
theorem dParts3 {a b c : List Nat} (ho : o.op = .buildSlice 58 3 #[(0, x), (1, y), (2, z)]) (hx : Bts a (ρ x) w) (hy : Bts b (ρ y) w) (hz : Bts c (ρ z) w) : Does Tryd.prog o ρ w (fun v w' => Below w.heap.size w w' ∧ Parts 3 a b c v w') := by
  refine Does.new (.slice (some ⟨w.heap.size, 0, none⟩) 3 3) (.cells #[ρ x, ρ y, ρ z] 22) ?_ (parts3 hx hy hz)
  obtain ⟨a1, c1, e1⟩ := hx.form
  obtain ⟨a2, c2, e2⟩ := hy.form
  obtain ⟨a3, c3, e3⟩ := hz.form
  simp only [execOp, ho, List.map_toArray, List.map, e1, e2, e3]; kernel_rfl
end
theorem cIsB {v : Value} {l : List Nat} {b : Bool} (hb : isL l = b) (w : World) (hT : TabA w) (h : Bts l v w) (hd : Dig l) : Ret 25 #[v] w (Is (.bool b)) := by
  rw [← hb]; exact cIs w hT h hd
theorem cEqualB {v1 v2 : Value} {x y : List Nat} {b : Bool} (hb : decide (x = y) = b) (w : World) (hx : Bts x v1 w) (hy : Bts y v2 w) (dx : Dig x) (dy : Dig y) : Ret 30 #[v1, v2] w (Is (.bool b)) := by
  rw [← hb]; exact cEqual w hx hy dx dy
theorem cNumber3 {x y z : List Nat} {v : Value} (w : World) (hT : TabA w) (h : Parts 3 x y z v w) (dx : Dig x) (dy : Dig y) (dz : Dig z) (h0 : 0 < x.length) (hl : x.length + y.length + z.length ≤ 100000) : Ret 16 #[v] w (Own w.heap.size (digs 32 (numL (x ++ y ++ z)))) := by
  have := numberP w hT (by omega) h (by rw [cat3, List.length_append, List.length_append]; omega) (by rw [cat3, List.length_append, List.length_append]; omega) dx dy dz
  rwa [cat3] at this
theorem ownLo' {f : FuncId} {args : Array Value} {w : World} {l : List Nat} {lo : Nat} (hlo : lo ≤ w.heap.size) (h : Ret f args w (Own w.heap.size l)) : Ret f args w (Own lo l) :=
  h.mono fun e w' ⟨v, h1, h2, g, h3, h4, h5⟩ => ⟨v, h1, h2, g, h3, by omega, h5⟩
theorem few06 (a : Option Addr) (len cap most : Nat) (w : World) (hcap : len ≤ cap) (hcap2 : cap ≤ 9223372036854775807) (hm : most ≤ 1000) :
    Calls Tryd.prog 7 #[.slice a len cap, .int .i64 (most : Int)] w fun e w' => e = .returned (.slice a (min len most) cap) ∧ w = w' := by
  by_cases h : most < len
  · rw [show min len most = most by omega]
    go_enter Tryd.func7, Tryd.ntmps7
    go_wp2
    go_ret
    exact ⟨rfl, rfl⟩
  · rw [show min len most = len by omega]
    go_enter Tryd.func7, Tryd.ntmps7
    go_wp2
    go_ret
    exact ⟨rfl, rfl⟩
/-- The first so many bytes. -/
theorem cFew {v : Value} {l : List Nat} (most : Nat) (w : World) (h : Bts l v w) (hm : most ≤ 1000) : Ret 7 #[v, .int .i64 (most : Int)] w (Bts (l.take most)) := by
  obtain ⟨a, cap, rfl, h1, h2, hv⟩ := h
  refine (few06 a l.length cap most w h1 h2 hm).mono fun e w' ⟨he, hw⟩ => ?_
  subst hw
  refine ⟨_, he, Below.refl _ _, a, cap, ?_, ?_, h2, hv.take most⟩
  · rw [List.length_take, Nat.min_comm]
  · rw [List.length_take]; omega
/-- 32 bytes of any. -/
def SEED (l : List Nat) : List Nat := l.take 32 ++ List.replicate (32 - l.length) 0
end Go.Proofs.YtabgihjffjlfiaaDoor
set_option linter.unusedVariables false
namespace Go.Proofs.YtabgihjffjlfiaaDoor
open Go.RowKit Go.Sort Go.BigFrame EN
set_option maxRecDepth 100000
set_option maxHeartbeats 2000000
theorem btsNil {v : Value} {w : World} (h : v = .slice none 0 0) : Bts [] v w := ⟨none, 0, h, Nat.le_refl _, by decide, fun h => absurd h (by simp)⟩
theorem verKey {pub m sig : List Nat} {v1 v2 v3 : Value} (w : World) (hT : TabV w) (hp : Bts pub v1 w) (hm : Bts m v2 w) (hs : Bts sig v3 w) (hpub : Dig pub) (hmd : Dig m) (hsig : Dig sig) (h11 : ∀ v w, TabV w → Bts pub v w → Ret 23 #[v] w (Tup2 (Is (.agg (ptc zeroE zeroE zeroE zeroE))) (Is (.int .i64 2)))) : Ret 13 #[v1, v2, v3] w (Is (.int .i64 11)) := by
  unfold Ret
  have hO0 : Below w.heap.size w w := Below.refl _ _
  go_enter Tryd.func13, Tryd.ntmps13
  refine wp_seq_k fun K1 hK1 => ?_
  refine wp_plain_inv 1 (specs [Is (.int .i64 0)]) (specs_stb ⟨Is.stb _, trivial⟩) (by kernel_rfl) ?_ ?_
  · refine ⟨fun a w hB hfr hdep => Step.plain rfl (dAssign (R := Is (.int .i64 0)) rfl rfl), trivial⟩
  intro u1 hb1
  simp only [List.take, List.drop, FinAll, Act.put, List.setIfInBounds_toArray, List.set_cons_succ, List.set_cons_zero]
  rintro _ rfl
  have hO1 := (hO0).trans (hb1.mono (hO0).size)
  have hT1 := TabV.below hT hb1
  refine hK1 _ _ ?_
  clear hK1 K1
  refine wp_seq_k fun K2 hK2 => ?_
  refine wp_plain_inv 6 (specs [Bts (pub), Tup2 (Is (.agg (ptc zeroE zeroE zeroE zeroE))) (Is (.int .i64 2)), Tup2 (Is (.agg (ptc zeroE zeroE zeroE zeroE))) (Is (.int .i64 2)), Is (.agg (ptc zeroE zeroE zeroE zeroE)), Is (.int .i64 2), Box u1.heap.size (ptc zeroE zeroE zeroE zeroE) 51]) (specs_stb ⟨Bts.stb _, Tup2.stb (Is.stb _) (Is.stb _), Tup2.stb (Is.stb _) (Is.stb _), Is.stb _, Is.stb _, Box.stb _ _ _, trivial⟩) (by kernel_rfl) ?_ ?_
  · refine ⟨fun a w hB hfr hdep => Step.plain rfl (dMove (R := Bts (pub)) rfl (use (hfr 0 (by kernel_rfl)) ((Bts.stb _) _ _ _ hB ((Bts.stb _) _ _ _ hb1 hp)))),
      fun a w hB hfr hdep => Step.plain rfl (Does.call 23 #[(a.eval (.tmp 14))] (by kernel_rfl) (h11 _ w (TabV.below hT1 hB) (hdep 0 14 (by kernel_rfl)))),
      fun a w hB hfr hdep => Step.plain rfl (dMove (R := Tup2 (Is (.agg (ptc zeroE zeroE zeroE zeroE))) (Is (.int .i64 2))) rfl (hdep 1 15 (by kernel_rfl))),
      fun a w hB hfr hdep => Step.plain rfl (dExt0 rfl (hdep 2 13 (by kernel_rfl))),
      fun a w hB hfr hdep => Step.plain rfl (dExt1 rfl (hdep 2 13 (by kernel_rfl))),
      fun a w hB hfr hdep => Step.plain rfl (dAlloc29 hB.size rfl), trivial⟩
  intro u2 hb2
  simp only [List.take, List.drop, FinAll, Act.put, List.setIfInBounds_toArray, List.set_cons_succ, List.set_cons_zero]
  rintro v14_2 h14_2 v15_2 h15_2 v13_2 h13_2 _ rfl _ rfl _ ⟨g7_2, rfl, l7_2, m7_2⟩
  refine wpList_store_row rfl 51 (.tmp 7) (.tmp 16) rfl _ (ptc zeroE zeroE zeroE zeroE) rfl rfl 51 _ m7_2 info29 rfl (ptc_one _ _ _ _) ?_
  have n7_2 := setRow_heap _ _ _ (ptc zeroE zeroE zeroE zeroE) _ _ m7_2
  replace hb2 := setRow_below hb2 l7_2 (ptc zeroE zeroE zeroE zeroE)
  generalize hw2_1 : u2.setRow g7_2 (ptc zeroE zeroE zeroE zeroE) = u2_1 at n7_2 hb2  ⊢
  clear hw2_1 m7_2
  refine wpList_assign rfl rfl rfl ?_
  simp only [Act.put, Act.eval, Array.getD_eq_getD_getElem?, List.getElem?_toArray, List.getElem?_cons_succ, List.getElem?_cons_zero, Option.getD_some, List.setIfInBounds_toArray, List.set_cons_succ, List.set_cons_zero]
  have hO2 := (hO1).trans (hb2.mono (hO1).size)
  have lwn7_2 := Nat.le_trans (hO1).size l7_2
  have hT2 := TabV.below hT1 hb2
  refine hK2 _ _ ?_
  clear hK2 K2
  refine wp_seq_k fun KO1 hKO1 => ?_
  refine wp_seq_k fun K3 hK3 => ?_
  refine wp_plain_inv 2 (specs [Is (.int .i64 2), Is (.bool true)]) (specs_stb ⟨Is.stb _, Is.stb _, trivial⟩) (by kernel_rfl) ?_ ?_
  · refine ⟨fun a w hB hfr hdep => Step.plain rfl (dMove (R := Is (.int .i64 2)) rfl (hfr 8 (by kernel_rfl))),
      fun a w hB hfr hdep => Step.plain rfl (Does.run _ (run_binO rfl (hdep 0 18 (by kernel_rfl)) rfl (by kernel_rfl)) rfl), trivial⟩
  intro u3 hb3
  simp only [List.take, List.drop, FinAll, Act.put, List.setIfInBounds_toArray, List.set_cons_succ, List.set_cons_zero]
  rintro _ rfl _ rfl
  have hO3 := (hO2).trans (hb3.mono (hO2).size)
  have n7_2__3 := block_below hb3 (lt_of_heap n7_2) n7_2
  have hT3 := TabV.below hT2 hb3
  refine hK3 _ _ ?_
  clear hK3 K3
  refine wp_cond_true rfl ?_
  refine wp_seq_k fun K4 hK4 => ?_
  refine wp_plain_inv 1 (specs [Is (.int .i64 11)]) (specs_stb ⟨Is.stb _, trivial⟩) (by kernel_rfl) ?_ ?_
  · refine ⟨fun a w hB hfr hdep => Step.plain rfl (dAssign (R := Is (.int .i64 11)) rfl rfl), trivial⟩
  intro u4 hb4
  simp only [List.take, List.drop, FinAll, Act.put, List.setIfInBounds_toArray, List.set_cons_succ, List.set_cons_zero]
  rintro _ rfl
  have hO4 := (hO3).trans (hb4.mono (hO3).size)
  have n7_2__4 := block_below hb4 (lt_of_heap n7_2__3) n7_2__3
  have hT4 := TabV.below hT3 hb4
  refine hK4 _ _ ?_
  clear hK4 K4
  refine wp_ret ?_
  simp only [Exit.then]
  refine bodyPost_ret (results_tmp rfl _ _ _) rfl ?_
  exact ⟨_, rfl, hO4, rfl⟩
theorem verLen {pub m sig : List Nat} {v1 v2 v3 : Value} (w : World) (hT : TabV w) (hp : Bts pub v1 w) (hm : Bts m v2 w) (hs : Bts sig v3 w) (hpub : Dig pub) (hmd : Dig m) (hsig : Dig sig) {P : Pt} (hP : P.enc = valD pub) (hp32 : pub.length = 32) {n : Nat} (hsn : sig.length = n) (hn : n ≠ 64) : Ret 13 #[v1, v2, v3] w (Is (.int .i64 10)) := by
  unfold Ret
  have hO0 : Below w.heap.size w w := Below.refl _ _
  go_enter Tryd.func13, Tryd.ntmps13
  refine wp_seq_k fun K1 hK1 => ?_
  refine wp_plain_inv 1 (specs [Is (.int .i64 0)]) (specs_stb ⟨Is.stb _, trivial⟩) (by kernel_rfl) ?_ ?_
  · refine ⟨fun a w hB hfr hdep => Step.plain rfl (dAssign (R := Is (.int .i64 0)) rfl rfl), trivial⟩
  intro u1 hb1
  simp only [List.take, List.drop, FinAll, Act.put, List.setIfInBounds_toArray, List.set_cons_succ, List.set_cons_zero]
  rintro _ rfl
  have hO1 := (hO0).trans (hb1.mono (hO0).size)
  have hT1 := TabV.below hT hb1
  refine hK1 _ _ ?_
  clear hK1 K1
  refine wp_seq_k fun K2 hK2 => ?_
  refine wp_plain_inv 6 (specs [Bts (pub), Tup2 (PtV (P)) (Is (.int .i64 0)), Tup2 (PtV (P)) (Is (.int .i64 0)), PtV (P), Is (.int .i64 0), Box u1.heap.size (ptc zeroE zeroE zeroE zeroE) 51]) (specs_stb ⟨Bts.stb _, Tup2.stb (PtV.stb _) (Is.stb _), Tup2.stb (PtV.stb _) (Is.stb _), PtV.stb _, Is.stb _, Box.stb _ _ _, trivial⟩) (by kernel_rfl) ?_ ?_
  · refine ⟨fun a w hB hfr hdep => Step.plain rfl (dMove (R := Bts (pub)) rfl (use (hfr 0 (by kernel_rfl)) ((Bts.stb _) _ _ _ hB ((Bts.stb _) _ _ _ hb1 hp)))),
      fun a w hB hfr hdep => Step.plain rfl (Does.call 23 #[(a.eval (.tmp 14))] (by kernel_rfl) (cReadPt w (TabV.below hT1 hB).2 (hdep 0 14 (by kernel_rfl)) hp32 hpub hP)),
      fun a w hB hfr hdep => Step.plain rfl (dMove (R := Tup2 (PtV (P)) (Is (.int .i64 0))) rfl (hdep 1 15 (by kernel_rfl))),
      fun a w hB hfr hdep => Step.plain rfl (dExt0 rfl (hdep 2 13 (by kernel_rfl))),
      fun a w hB hfr hdep => Step.plain rfl (dExt1 rfl (hdep 2 13 (by kernel_rfl))),
      fun a w hB hfr hdep => Step.plain rfl (dAlloc29 hB.size rfl), trivial⟩
  intro u2 hb2
  simp only [List.take, List.drop, FinAll, Act.put, List.setIfInBounds_toArray, List.set_cons_succ, List.set_cons_zero]
  rintro v14_2 h14_2 v15_2 h15_2 v13_2 h13_2 _ ⟨e16_2, rfl, x16_2⟩ _ rfl _ ⟨g7_2, rfl, l7_2, m7_2⟩
  refine wpList_store_row rfl 51 (.tmp 7) (.tmp 16) rfl _ (e16_2) rfl rfl 51 _ m7_2 (by rw [cellsP_size x16_2]; exact info29) (by rw [cellsP_size x16_2]; rfl) (cellsP_one x16_2) ?_
  have n7_2 := setRow_heap _ _ _ (e16_2) _ _ m7_2
  replace hb2 := setRow_below hb2 l7_2 (e16_2)
  generalize hw2_1 : u2.setRow g7_2 (e16_2) = u2_1 at n7_2 hb2  ⊢
  clear hw2_1 m7_2
  refine wpList_assign rfl rfl rfl ?_
  simp only [Act.put, Act.eval, Array.getD_eq_getD_getElem?, List.getElem?_toArray, List.getElem?_cons_succ, List.getElem?_cons_zero, Option.getD_some, List.setIfInBounds_toArray, List.set_cons_succ, List.set_cons_zero]
  have hO2 := (hO1).trans (hb2.mono (hO1).size)
  have lwn7_2 := Nat.le_trans (hO1).size l7_2
  have hT2 := TabV.below hT1 hb2
  refine hK2 _ _ ?_
  clear hK2 K2
  refine wp_seq_k fun KO1 hKO1 => ?_
  refine wp_seq_k fun K3 hK3 => ?_
  refine wp_plain_inv 2 (specs [Is (.int .i64 0), Is (.bool false)]) (specs_stb ⟨Is.stb _, Is.stb _, trivial⟩) (by kernel_rfl) ?_ ?_
  · refine ⟨fun a w hB hfr hdep => Step.plain rfl (dMove (R := Is (.int .i64 0)) rfl (hfr 8 (by kernel_rfl))),
      fun a w hB hfr hdep => Step.plain rfl (Does.run _ (run_binO rfl (hdep 0 18 (by kernel_rfl)) rfl (by kernel_rfl)) rfl), trivial⟩
  intro u3 hb3
  simp only [List.take, List.drop, FinAll, Act.put, List.setIfInBounds_toArray, List.set_cons_succ, List.set_cons_zero]
  rintro _ rfl _ rfl
  have hO3 := (hO2).trans (hb3.mono (hO2).size)
  have n7_2__3 := block_below hb3 (lt_of_heap n7_2) n7_2
  have hT3 := TabV.below hT2 hb3
  refine hK3 _ _ ?_
  clear hK3 K3
  refine wp_cond_false rfl ?_
  refine wp_skip ?_
  refine hKO1 _ _ ?_
  clear hKO1 KO1
  refine wp_seq_k fun KO2 hKO2 => ?_
  refine wp_seq_k fun K4 hK4 => ?_
  refine wp_plain_inv 3 (specs [Bts (sig), Is (.int .i64 (n : Int)), Is (.bool true)]) (specs_stb ⟨Bts.stb _, Is.stb _, Is.stb _, trivial⟩) (by kernel_rfl) ?_ ?_
  · refine ⟨fun a w hB hfr hdep => Step.plain rfl (dMove (R := Bts (sig)) rfl (use (hfr 2 (by kernel_rfl)) ((Bts.stb _) _ _ _ hB ((Bts.stb _) _ _ _ hb3 ((Bts.stb _) _ _ _ hb2 ((Bts.stb _) _ _ _ hb1 hs)))))),
      fun a w hB hfr hdep => Step.plain rfl (dLenB hsn rfl (hdep 0 20 (by kernel_rfl))),
      fun a w hB hfr hdep => Step.plain rfl (Does.run _ (run_neqN (n := n) (k := 64) hn rfl (hdep 1 21 (by kernel_rfl)) rfl) rfl), trivial⟩
  intro u4 hb4
  simp only [List.take, List.drop, FinAll, Act.put, List.setIfInBounds_toArray, List.set_cons_succ, List.set_cons_zero]
  rintro v20_4 h20_4 _ rfl _ rfl
  have hO4 := (hO3).trans (hb4.mono (hO3).size)
  have n7_2__4 := block_below hb4 (lt_of_heap n7_2__3) n7_2__3
  have hT4 := TabV.below hT3 hb4
  refine hK4 _ _ ?_
  clear hK4 K4
  refine wp_cond_true rfl ?_
  refine wp_seq_k fun K5 hK5 => ?_
  refine wp_plain_inv 1 (specs [Is (.int .i64 10)]) (specs_stb ⟨Is.stb _, trivial⟩) (by kernel_rfl) ?_ ?_
  · refine ⟨fun a w hB hfr hdep => Step.plain rfl (dAssign (R := Is (.int .i64 10)) rfl rfl), trivial⟩
  intro u5 hb5
  simp only [List.take, List.drop, FinAll, Act.put, List.setIfInBounds_toArray, List.set_cons_succ, List.set_cons_zero]
  rintro _ rfl
  have hO5 := (hO4).trans (hb5.mono (hO4).size)
  have n7_2__5 := block_below hb5 (lt_of_heap n7_2__4) n7_2__4
  have hT5 := TabV.below hT4 hb5
  refine hK5 _ _ ?_
  clear hK5 K5
  refine wp_ret ?_
  simp only [Exit.then]
  refine bodyPost_ret (results_tmp rfl _ _ _) rfl ?_
  exact ⟨_, rfl, hO5, rfl⟩
theorem verIs {pub m sig : List Nat} {v1 v2 v3 : Value} (w : World) (hT : TabV w) (hp : Bts pub v1 w) (hm : Bts m v2 w) (hs : Bts sig v3 w) (hpub : Dig pub) (hmd : Dig m) (hsig : Dig sig) {P : Pt} (hP : P.enc = valD pub) (hp32 : pub.length = 32) (hs64 : sig.length = 64) (hIs : isL ((sig).drop 32) = false) : Ret 13 #[v1, v2, v3] w (Is (.int .i64 10)) := by
  unfold Ret
  have hO0 : Below w.heap.size w w := Below.refl _ _
  go_enter Tryd.func13, Tryd.ntmps13
  refine wp_seq_k fun K1 hK1 => ?_
  refine wp_plain_inv 1 (specs [Is (.int .i64 0)]) (specs_stb ⟨Is.stb _, trivial⟩) (by kernel_rfl) ?_ ?_
  · refine ⟨fun a w hB hfr hdep => Step.plain rfl (dAssign (R := Is (.int .i64 0)) rfl rfl), trivial⟩
  intro u1 hb1
  simp only [List.take, List.drop, FinAll, Act.put, List.setIfInBounds_toArray, List.set_cons_succ, List.set_cons_zero]
  rintro _ rfl
  have hO1 := (hO0).trans (hb1.mono (hO0).size)
  have hT1 := TabV.below hT hb1
  refine hK1 _ _ ?_
  clear hK1 K1
  refine wp_seq_k fun K2 hK2 => ?_
  refine wp_plain_inv 6 (specs [Bts (pub), Tup2 (PtV (P)) (Is (.int .i64 0)), Tup2 (PtV (P)) (Is (.int .i64 0)), PtV (P), Is (.int .i64 0), Box u1.heap.size (ptc zeroE zeroE zeroE zeroE) 51]) (specs_stb ⟨Bts.stb _, Tup2.stb (PtV.stb _) (Is.stb _), Tup2.stb (PtV.stb _) (Is.stb _), PtV.stb _, Is.stb _, Box.stb _ _ _, trivial⟩) (by kernel_rfl) ?_ ?_
  · refine ⟨fun a w hB hfr hdep => Step.plain rfl (dMove (R := Bts (pub)) rfl (use (hfr 0 (by kernel_rfl)) ((Bts.stb _) _ _ _ hB ((Bts.stb _) _ _ _ hb1 hp)))),
      fun a w hB hfr hdep => Step.plain rfl (Does.call 23 #[(a.eval (.tmp 14))] (by kernel_rfl) (cReadPt w (TabV.below hT1 hB).2 (hdep 0 14 (by kernel_rfl)) hp32 hpub hP)),
      fun a w hB hfr hdep => Step.plain rfl (dMove (R := Tup2 (PtV (P)) (Is (.int .i64 0))) rfl (hdep 1 15 (by kernel_rfl))),
      fun a w hB hfr hdep => Step.plain rfl (dExt0 rfl (hdep 2 13 (by kernel_rfl))),
      fun a w hB hfr hdep => Step.plain rfl (dExt1 rfl (hdep 2 13 (by kernel_rfl))),
      fun a w hB hfr hdep => Step.plain rfl (dAlloc29 hB.size rfl), trivial⟩
  intro u2 hb2
  simp only [List.take, List.drop, FinAll, Act.put, List.setIfInBounds_toArray, List.set_cons_succ, List.set_cons_zero]
  rintro v14_2 h14_2 v15_2 h15_2 v13_2 h13_2 _ ⟨e16_2, rfl, x16_2⟩ _ rfl _ ⟨g7_2, rfl, l7_2, m7_2⟩
  refine wpList_store_row rfl 51 (.tmp 7) (.tmp 16) rfl _ (e16_2) rfl rfl 51 _ m7_2 (by rw [cellsP_size x16_2]; exact info29) (by rw [cellsP_size x16_2]; rfl) (cellsP_one x16_2) ?_
  have n7_2 := setRow_heap _ _ _ (e16_2) _ _ m7_2
  replace hb2 := setRow_below hb2 l7_2 (e16_2)
  generalize hw2_1 : u2.setRow g7_2 (e16_2) = u2_1 at n7_2 hb2  ⊢
  clear hw2_1 m7_2
  refine wpList_assign rfl rfl rfl ?_
  simp only [Act.put, Act.eval, Array.getD_eq_getD_getElem?, List.getElem?_toArray, List.getElem?_cons_succ, List.getElem?_cons_zero, Option.getD_some, List.setIfInBounds_toArray, List.set_cons_succ, List.set_cons_zero]
  have hO2 := (hO1).trans (hb2.mono (hO1).size)
  have lwn7_2 := Nat.le_trans (hO1).size l7_2
  have hT2 := TabV.below hT1 hb2
  refine hK2 _ _ ?_
  clear hK2 K2
  refine wp_seq_k fun KO1 hKO1 => ?_
  refine wp_seq_k fun K3 hK3 => ?_
  refine wp_plain_inv 2 (specs [Is (.int .i64 0), Is (.bool false)]) (specs_stb ⟨Is.stb _, Is.stb _, trivial⟩) (by kernel_rfl) ?_ ?_
  · refine ⟨fun a w hB hfr hdep => Step.plain rfl (dMove (R := Is (.int .i64 0)) rfl (hfr 8 (by kernel_rfl))),
      fun a w hB hfr hdep => Step.plain rfl (Does.run _ (run_binO rfl (hdep 0 18 (by kernel_rfl)) rfl (by kernel_rfl)) rfl), trivial⟩
  intro u3 hb3
  simp only [List.take, List.drop, FinAll, Act.put, List.setIfInBounds_toArray, List.set_cons_succ, List.set_cons_zero]
  rintro _ rfl _ rfl
  have hO3 := (hO2).trans (hb3.mono (hO2).size)
  have n7_2__3 := block_below hb3 (lt_of_heap n7_2) n7_2
  have hT3 := TabV.below hT2 hb3
  refine hK3 _ _ ?_
  clear hK3 K3
  refine wp_cond_false rfl ?_
  refine wp_skip ?_
  refine hKO1 _ _ ?_
  clear hKO1 KO1
  refine wp_seq_k fun KO2 hKO2 => ?_
  refine wp_seq_k fun K4 hK4 => ?_
  refine wp_plain_inv 3 (specs [Bts (sig), Is (.int .i64 64), Is (.bool false)]) (specs_stb ⟨Bts.stb _, Is.stb _, Is.stb _, trivial⟩) (by kernel_rfl) ?_ ?_
  · refine ⟨fun a w hB hfr hdep => Step.plain rfl (dMove (R := Bts (sig)) rfl (use (hfr 2 (by kernel_rfl)) ((Bts.stb _) _ _ _ hB ((Bts.stb _) _ _ _ hb3 ((Bts.stb _) _ _ _ hb2 ((Bts.stb _) _ _ _ hb1 hs)))))),
      fun a w hB hfr hdep => Step.plain rfl (dLenB hs64 rfl (hdep 0 20 (by kernel_rfl))),
      fun a w hB hfr hdep => Step.plain rfl (Does.run _ (run_binO rfl (hdep 1 21 (by kernel_rfl)) rfl (by kernel_rfl)) rfl), trivial⟩
  intro u4 hb4
  simp only [List.take, List.drop, FinAll, Act.put, List.setIfInBounds_toArray, List.set_cons_succ, List.set_cons_zero]
  rintro v20_4 h20_4 _ rfl _ rfl
  have hO4 := (hO3).trans (hb4.mono (hO3).size)
  have n7_2__4 := block_below hb4 (lt_of_heap n7_2__3) n7_2__3
  have hT4 := TabV.below hT3 hb4
  refine hK4 _ _ ?_
  clear hK4 K4
  refine wp_cond_false rfl ?_
  refine wp_skip ?_
  refine hKO2 _ _ ?_
  clear hKO2 KO2
  refine wp_seq_k fun K5 hK5 => ?_
  refine wp_plain_inv 7 (specs [Bts (sig), Tup2 (Bts ((sig).take 32)) (Bts ((sig).drop 32)), Tup2 (Bts ((sig).take 32)) (Bts ((sig).drop 32)), Bts ((sig).take 32), Bts ((sig).drop 32), Bts ((sig).take 32), Bts ((sig).drop 32)]) (specs_stb ⟨Bts.stb _, Tup2.stb (Bts.stb _) (Bts.stb _), Tup2.stb (Bts.stb _) (Bts.stb _), Bts.stb _, Bts.stb _, Bts.stb _, Bts.stb _, trivial⟩) (by kernel_rfl) ?_ ?_
  · refine ⟨fun a w hB hfr hdep => Step.plain rfl (dMove (R := Bts (sig)) rfl (use (hfr 2 (by kernel_rfl)) ((Bts.stb _) _ _ _ hB ((Bts.stb _) _ _ _ hb4 ((Bts.stb _) _ _ _ hb3 ((Bts.stb _) _ _ _ hb2 ((Bts.stb _) _ _ _ hb1 hs))))))),
      fun a w hB hfr hdep => Step.plain rfl (Does.call 24 #[(a.eval (.tmp 24))] (by kernel_rfl) (cHalves w (hdep 0 24 (by kernel_rfl)) hs64)),
      fun a w hB hfr hdep => Step.plain rfl (dMove (R := Tup2 (Bts ((sig).take 32)) (Bts ((sig).drop 32))) rfl (hdep 1 25 (by kernel_rfl))),
      fun a w hB hfr hdep => Step.plain rfl (dExt0 rfl (hdep 2 23 (by kernel_rfl))),
      fun a w hB hfr hdep => Step.plain rfl (dExt1 rfl (hdep 2 23 (by kernel_rfl))),
      fun a w hB hfr hdep => Step.plain rfl (dAssign (R := Bts ((sig).take 32)) rfl (hdep 3 26 (by kernel_rfl))),
      fun a w hB hfr hdep => Step.plain rfl (dAssign (R := Bts ((sig).drop 32)) rfl (hdep 4 27 (by kernel_rfl))), trivial⟩
  intro u5 hb5
  simp only [List.take, List.drop, FinAll, Act.put, List.setIfInBounds_toArray, List.set_cons_succ, List.set_cons_zero]
  rintro v24_5 h24_5 v25_5 h25_5 v23_5 h23_5 v26_5 h26_5 v27_5 h27_5 v9_5 h9_5 v10_5 h10_5
  have hO5 := (hO4).trans (hb5.mono (hO4).size)
  have n7_2__5 := block_below hb5 (lt_of_heap n7_2__4) n7_2__4
  have hT5 := TabV.below hT4 hb5
  refine hK5 _ _ ?_
  clear hK5 K5
  refine wp_seq_k fun KO3 hKO3 => ?_
  refine wp_seq_k fun K6 hK6 => ?_
  refine wp_plain_inv 3 (specs [Bts ((sig).drop 32), Is (.bool false), Is (.bool true)]) (specs_stb ⟨Bts.stb _, Is.stb _, Is.stb _, trivial⟩) (by kernel_rfl) ?_ ?_
  · refine ⟨fun a w hB hfr hdep => Step.plain rfl (dMove (R := Bts ((sig).drop 32)) rfl (use (hfr 10 (by kernel_rfl)) ((Bts.stb _) _ _ _ hB h10_5))),
      fun a w hB hfr hdep => Step.plain rfl (Does.call 25 #[(a.eval (.tmp 28))] (by kernel_rfl) (cIsB hIs w (TabV.below hT5 hB).1 (hdep 0 28 (by kernel_rfl)) (Dig.drop hsig _))),
      fun a w hB hfr hdep => Step.plain rfl (Does.run _ (run_notO rfl (hdep 1 29 (by kernel_rfl))) rfl), trivial⟩
  intro u6 hb6
  simp only [List.take, List.drop, FinAll, Act.put, List.setIfInBounds_toArray, List.set_cons_succ, List.set_cons_zero]
  rintro v28_6 h28_6 _ rfl _ rfl
  have hO6 := (hO5).trans (hb6.mono (hO5).size)
  have n7_2__6 := block_below hb6 (lt_of_heap n7_2__5) n7_2__5
  have hT6 := TabV.below hT5 hb6
  refine hK6 _ _ ?_
  clear hK6 K6
  refine wp_cond_true rfl ?_
  refine wp_seq_k fun K7 hK7 => ?_
  refine wp_plain_inv 1 (specs [Is (.int .i64 10)]) (specs_stb ⟨Is.stb _, trivial⟩) (by kernel_rfl) ?_ ?_
  · refine ⟨fun a w hB hfr hdep => Step.plain rfl (dAssign (R := Is (.int .i64 10)) rfl rfl), trivial⟩
  intro u7 hb7
  simp only [List.take, List.drop, FinAll, Act.put, List.setIfInBounds_toArray, List.set_cons_succ, List.set_cons_zero]
  rintro _ rfl
  have hO7 := (hO6).trans (hb7.mono (hO6).size)
  have n7_2__7 := block_below hb7 (lt_of_heap n7_2__6) n7_2__6
  have hT7 := TabV.below hT6 hb7
  refine hK7 _ _ ?_
  clear hK7 K7
  refine wp_ret ?_
  simp only [Exit.then]
  refine bodyPost_ret (results_tmp rfl _ _ _) rfl ?_
  exact ⟨_, rfl, hO7, rfl⟩
theorem verNo {pub m sig : List Nat} {v1 v2 v3 : Value} (w : World) (hT : TabV w) (hp : Bts pub v1 w) (hm : Bts m v2 w) (hs : Bts sig v3 w) (hpub : Dig pub) (hmd : Dig m) (hsig : Dig sig) {P : Pt} (hP : P.enc = valD pub) (hp32 : pub.length = 32) (hs64 : sig.length = 64) (hml : m.length ≤ 50000) (hIs : isL ((sig).drop 32) = true) (hE : decide ((sig).take 32 = digs 32 (Pt.enc ((bp.nm (valD ((sig).drop 32))).add ((P.nm (valD (digs 32 (numL ((sig).take 32 ++ pub ++ m))))).neg)))) = false) : Ret 13 #[v1, v2, v3] w (Is (.int .i64 10)) := by
  unfold Ret
  have hO0 : Below w.heap.size w w := Below.refl _ _
  go_enter Tryd.func13, Tryd.ntmps13
  refine wp_seq_k fun K1 hK1 => ?_
  refine wp_plain_inv 1 (specs [Is (.int .i64 0)]) (specs_stb ⟨Is.stb _, trivial⟩) (by kernel_rfl) ?_ ?_
  · refine ⟨fun a w hB hfr hdep => Step.plain rfl (dAssign (R := Is (.int .i64 0)) rfl rfl), trivial⟩
  intro u1 hb1
  simp only [List.take, List.drop, FinAll, Act.put, List.setIfInBounds_toArray, List.set_cons_succ, List.set_cons_zero]
  rintro _ rfl
  have hO1 := (hO0).trans (hb1.mono (hO0).size)
  have hT1 := TabV.below hT hb1
  refine hK1 _ _ ?_
  clear hK1 K1
  refine wp_seq_k fun K2 hK2 => ?_
  refine wp_plain_inv 6 (specs [Bts (pub), Tup2 (PtV (P)) (Is (.int .i64 0)), Tup2 (PtV (P)) (Is (.int .i64 0)), PtV (P), Is (.int .i64 0), Box u1.heap.size (ptc zeroE zeroE zeroE zeroE) 51]) (specs_stb ⟨Bts.stb _, Tup2.stb (PtV.stb _) (Is.stb _), Tup2.stb (PtV.stb _) (Is.stb _), PtV.stb _, Is.stb _, Box.stb _ _ _, trivial⟩) (by kernel_rfl) ?_ ?_
  · refine ⟨fun a w hB hfr hdep => Step.plain rfl (dMove (R := Bts (pub)) rfl (use (hfr 0 (by kernel_rfl)) ((Bts.stb _) _ _ _ hB ((Bts.stb _) _ _ _ hb1 hp)))),
      fun a w hB hfr hdep => Step.plain rfl (Does.call 23 #[(a.eval (.tmp 14))] (by kernel_rfl) (cReadPt w (TabV.below hT1 hB).2 (hdep 0 14 (by kernel_rfl)) hp32 hpub hP)),
      fun a w hB hfr hdep => Step.plain rfl (dMove (R := Tup2 (PtV (P)) (Is (.int .i64 0))) rfl (hdep 1 15 (by kernel_rfl))),
      fun a w hB hfr hdep => Step.plain rfl (dExt0 rfl (hdep 2 13 (by kernel_rfl))),
      fun a w hB hfr hdep => Step.plain rfl (dExt1 rfl (hdep 2 13 (by kernel_rfl))),
      fun a w hB hfr hdep => Step.plain rfl (dAlloc29 hB.size rfl), trivial⟩
  intro u2 hb2
  simp only [List.take, List.drop, FinAll, Act.put, List.setIfInBounds_toArray, List.set_cons_succ, List.set_cons_zero]
  rintro v14_2 h14_2 v15_2 h15_2 v13_2 h13_2 _ ⟨e16_2, rfl, x16_2⟩ _ rfl _ ⟨g7_2, rfl, l7_2, m7_2⟩
  refine wpList_store_row rfl 51 (.tmp 7) (.tmp 16) rfl _ (e16_2) rfl rfl 51 _ m7_2 (by rw [cellsP_size x16_2]; exact info29) (by rw [cellsP_size x16_2]; rfl) (cellsP_one x16_2) ?_
  have n7_2 := setRow_heap _ _ _ (e16_2) _ _ m7_2
  replace hb2 := setRow_below hb2 l7_2 (e16_2)
  generalize hw2_1 : u2.setRow g7_2 (e16_2) = u2_1 at n7_2 hb2  ⊢
  clear hw2_1 m7_2
  refine wpList_assign rfl rfl rfl ?_
  simp only [Act.put, Act.eval, Array.getD_eq_getD_getElem?, List.getElem?_toArray, List.getElem?_cons_succ, List.getElem?_cons_zero, Option.getD_some, List.setIfInBounds_toArray, List.set_cons_succ, List.set_cons_zero]
  have hO2 := (hO1).trans (hb2.mono (hO1).size)
  have lwn7_2 := Nat.le_trans (hO1).size l7_2
  have hT2 := TabV.below hT1 hb2
  refine hK2 _ _ ?_
  clear hK2 K2
  refine wp_seq_k fun KO1 hKO1 => ?_
  refine wp_seq_k fun K3 hK3 => ?_
  refine wp_plain_inv 2 (specs [Is (.int .i64 0), Is (.bool false)]) (specs_stb ⟨Is.stb _, Is.stb _, trivial⟩) (by kernel_rfl) ?_ ?_
  · refine ⟨fun a w hB hfr hdep => Step.plain rfl (dMove (R := Is (.int .i64 0)) rfl (hfr 8 (by kernel_rfl))),
      fun a w hB hfr hdep => Step.plain rfl (Does.run _ (run_binO rfl (hdep 0 18 (by kernel_rfl)) rfl (by kernel_rfl)) rfl), trivial⟩
  intro u3 hb3
  simp only [List.take, List.drop, FinAll, Act.put, List.setIfInBounds_toArray, List.set_cons_succ, List.set_cons_zero]
  rintro _ rfl _ rfl
  have hO3 := (hO2).trans (hb3.mono (hO2).size)
  have n7_2__3 := block_below hb3 (lt_of_heap n7_2) n7_2
  have hT3 := TabV.below hT2 hb3
  refine hK3 _ _ ?_
  clear hK3 K3
  refine wp_cond_false rfl ?_
  refine wp_skip ?_
  refine hKO1 _ _ ?_
  clear hKO1 KO1
  refine wp_seq_k fun KO2 hKO2 => ?_
  refine wp_seq_k fun K4 hK4 => ?_
  refine wp_plain_inv 3 (specs [Bts (sig), Is (.int .i64 64), Is (.bool false)]) (specs_stb ⟨Bts.stb _, Is.stb _, Is.stb _, trivial⟩) (by kernel_rfl) ?_ ?_
  · refine ⟨fun a w hB hfr hdep => Step.plain rfl (dMove (R := Bts (sig)) rfl (use (hfr 2 (by kernel_rfl)) ((Bts.stb _) _ _ _ hB ((Bts.stb _) _ _ _ hb3 ((Bts.stb _) _ _ _ hb2 ((Bts.stb _) _ _ _ hb1 hs)))))),
      fun a w hB hfr hdep => Step.plain rfl (dLenB hs64 rfl (hdep 0 20 (by kernel_rfl))),
      fun a w hB hfr hdep => Step.plain rfl (Does.run _ (run_binO rfl (hdep 1 21 (by kernel_rfl)) rfl (by kernel_rfl)) rfl), trivial⟩
  intro u4 hb4
  simp only [List.take, List.drop, FinAll, Act.put, List.setIfInBounds_toArray, List.set_cons_succ, List.set_cons_zero]
  rintro v20_4 h20_4 _ rfl _ rfl
  have hO4 := (hO3).trans (hb4.mono (hO3).size)
  have n7_2__4 := block_below hb4 (lt_of_heap n7_2__3) n7_2__3
  have hT4 := TabV.below hT3 hb4
  refine hK4 _ _ ?_
  clear hK4 K4
  refine wp_cond_false rfl ?_
  refine wp_skip ?_
  refine hKO2 _ _ ?_
  clear hKO2 KO2
  refine wp_seq_k fun K5 hK5 => ?_
  refine wp_plain_inv 7 (specs [Bts (sig), Tup2 (Bts ((sig).take 32)) (Bts ((sig).drop 32)), Tup2 (Bts ((sig).take 32)) (Bts ((sig).drop 32)), Bts ((sig).take 32), Bts ((sig).drop 32), Bts ((sig).take 32), Bts ((sig).drop 32)]) (specs_stb ⟨Bts.stb _, Tup2.stb (Bts.stb _) (Bts.stb _), Tup2.stb (Bts.stb _) (Bts.stb _), Bts.stb _, Bts.stb _, Bts.stb _, Bts.stb _, trivial⟩) (by kernel_rfl) ?_ ?_
  · refine ⟨fun a w hB hfr hdep => Step.plain rfl (dMove (R := Bts (sig)) rfl (use (hfr 2 (by kernel_rfl)) ((Bts.stb _) _ _ _ hB ((Bts.stb _) _ _ _ hb4 ((Bts.stb _) _ _ _ hb3 ((Bts.stb _) _ _ _ hb2 ((Bts.stb _) _ _ _ hb1 hs))))))),
      fun a w hB hfr hdep => Step.plain rfl (Does.call 24 #[(a.eval (.tmp 24))] (by kernel_rfl) (cHalves w (hdep 0 24 (by kernel_rfl)) hs64)),
      fun a w hB hfr hdep => Step.plain rfl (dMove (R := Tup2 (Bts ((sig).take 32)) (Bts ((sig).drop 32))) rfl (hdep 1 25 (by kernel_rfl))),
      fun a w hB hfr hdep => Step.plain rfl (dExt0 rfl (hdep 2 23 (by kernel_rfl))),
      fun a w hB hfr hdep => Step.plain rfl (dExt1 rfl (hdep 2 23 (by kernel_rfl))),
      fun a w hB hfr hdep => Step.plain rfl (dAssign (R := Bts ((sig).take 32)) rfl (hdep 3 26 (by kernel_rfl))),
      fun a w hB hfr hdep => Step.plain rfl (dAssign (R := Bts ((sig).drop 32)) rfl (hdep 4 27 (by kernel_rfl))), trivial⟩
  intro u5 hb5
  simp only [List.take, List.drop, FinAll, Act.put, List.setIfInBounds_toArray, List.set_cons_succ, List.set_cons_zero]
  rintro v24_5 h24_5 v25_5 h25_5 v23_5 h23_5 v26_5 h26_5 v27_5 h27_5 v9_5 h9_5 v10_5 h10_5
  have hO5 := (hO4).trans (hb5.mono (hO4).size)
  have n7_2__5 := block_below hb5 (lt_of_heap n7_2__4) n7_2__4
  have hT5 := TabV.below hT4 hb5
  refine hK5 _ _ ?_
  clear hK5 K5
  refine wp_seq_k fun KO3 hKO3 => ?_
  refine wp_seq_k fun K6 hK6 => ?_
  refine wp_plain_inv 3 (specs [Bts ((sig).drop 32), Is (.bool true), Is (.bool false)]) (specs_stb ⟨Bts.stb _, Is.stb _, Is.stb _, trivial⟩) (by kernel_rfl) ?_ ?_
  · refine ⟨fun a w hB hfr hdep => Step.plain rfl (dMove (R := Bts ((sig).drop 32)) rfl (use (hfr 10 (by kernel_rfl)) ((Bts.stb _) _ _ _ hB h10_5))),
      fun a w hB hfr hdep => Step.plain rfl (Does.call 25 #[(a.eval (.tmp 28))] (by kernel_rfl) (cIsB hIs w (TabV.below hT5 hB).1 (hdep 0 28 (by kernel_rfl)) (Dig.drop hsig _))),
      fun a w hB hfr hdep => Step.plain rfl (Does.run _ (run_notO rfl (hdep 1 29 (by kernel_rfl))) rfl), trivial⟩
  intro u6 hb6
  simp only [List.take, List.drop, FinAll, Act.put, List.setIfInBounds_toArray, List.set_cons_succ, List.set_cons_zero]
  rintro v28_6 h28_6 _ rfl _ rfl
  have hO6 := (hO5).trans (hb6.mono (hO5).size)
  have n7_2__6 := block_below hb6 (lt_of_heap n7_2__5) n7_2__5
  have hT6 := TabV.below hT5 hb6
  refine hK6 _ _ ?_
  clear hK6 K6
  refine wp_cond_false rfl ?_
  refine wp_skip ?_
  refine hKO3 _ _ ?_
  clear hKO3 KO3
  refine wp_seq_k fun K7 hK7 => ?_
  refine wp_plain_inv 6 (specs [Bts ((sig).take 32), Bts (pub), Bts (m), Parts 3 ((sig).take 32) (pub) (m), Own u6.heap.size (digs 32 (numL ((sig).take 32 ++ pub ++ m))), Own u6.heap.size (digs 32 (numL ((sig).take 32 ++ pub ++ m)))]) (specs_stb ⟨Bts.stb _, Bts.stb _, Bts.stb _, Parts.stb _ _ _ _, Own.stb _ _, Own.stb _ _, trivial⟩) (by kernel_rfl) ?_ ?_
  · refine ⟨fun a w hB hfr hdep => Step.plain rfl (dMove (R := Bts ((sig).take 32)) rfl (use (hfr 9 (by kernel_rfl)) ((Bts.stb _) _ _ _ hB ((Bts.stb _) _ _ _ hb6 h9_5)))),
      fun a w hB hfr hdep => Step.plain rfl (dMove (R := Bts (pub)) rfl (use (hfr 0 (by kernel_rfl)) ((Bts.stb _) _ _ _ hB ((Bts.stb _) _ _ _ hb6 ((Bts.stb _) _ _ _ hb5 ((Bts.stb _) _ _ _ hb4 ((Bts.stb _) _ _ _ hb3 ((Bts.stb _) _ _ _ hb2 ((Bts.stb _) _ _ _ hb1 hp))))))))),
      fun a w hB hfr hdep => Step.plain rfl (dMove (R := Bts (m)) rfl (use (hfr 1 (by kernel_rfl)) ((Bts.stb _) _ _ _ hB ((Bts.stb _) _ _ _ hb6 ((Bts.stb _) _ _ _ hb5 ((Bts.stb _) _ _ _ hb4 ((Bts.stb _) _ _ _ hb3 ((Bts.stb _) _ _ _ hb2 ((Bts.stb _) _ _ _ hb1 hm))))))))),
      fun a w hB hfr hdep => Step.plain rfl (dParts3 rfl (hdep 0 31 (by kernel_rfl)) (hdep 1 32 (by kernel_rfl)) (hdep 2 33 (by kernel_rfl))),
      fun a w hB hfr hdep => Step.plain rfl (Does.call 16 #[(a.eval (.tmp 34))] (by kernel_rfl) (ownLo' hB.size (cNumber3 w (TabV.below hT6 hB).1 (hdep 3 34 (by kernel_rfl)) (Dig.take hsig _) hpub hmd (by rw [List.length_take]; omega) (by rw [List.length_take]; omega)))),
      fun a w hB hfr hdep => Step.plain rfl (dAssign (R := Own u6.heap.size (digs 32 (numL ((sig).take 32 ++ pub ++ m)))) rfl (hdep 4 35 (by kernel_rfl))), trivial⟩
  intro u7 hb7
  simp only [List.take, List.drop, FinAll, Act.put, List.setIfInBounds_toArray, List.set_cons_succ, List.set_cons_zero]
  rintro v31_7 h31_7 v32_7 h32_7 v33_7 h33_7 v34_7 h34_7 v35_7 h35_7 v11_7 h11_7
  have hO7 := (hO6).trans (hb7.mono (hO6).size)
  have n7_2__7 := block_below hb7 (lt_of_heap n7_2__6) n7_2__6
  have hT7 := TabV.below hT6 hb7
  refine hK7 _ _ ?_
  clear hK7 K7
  refine wp_seq_k fun K8 hK8 => ?_
  refine wp_region_inv 9 (specs [PtV (bp), Bts ((sig).drop 32), PtV ((bp).nm (valD ((sig).drop 32))), PtV (P), Own u6.heap.size (digs 32 (numL ((sig).take 32 ++ pub ++ m))), PtV ((P).nm (valD (digs 32 (numL ((sig).take 32 ++ pub ++ m))))), PtV (((P).nm (valD (digs 32 (numL ((sig).take 32 ++ pub ++ m))))).neg), PtV (((bp).nm (valD ((sig).drop 32))).add (((P).nm (valD (digs 32 (numL ((sig).take 32 ++ pub ++ m))))).neg)), Box u7.heap.size (ptc zeroE zeroE zeroE zeroE) 51]) (by kernel_rfl) (specs_stb ⟨PtV.stb _, Bts.stb _, PtV.stb _, PtV.stb _, Own.stb _ _, PtV.stb _, PtV.stb _, PtV.stb _, Box.stb _ _ _, trivial⟩) (by kernel_rfl) ?_ ?_
  · refine ⟨fun a w hB hfr hdep => Step.plain rfl (Does.call 26 #[] (by kernel_rfl) (cBase w (TabV.below hT7 hB).1.t)),
      fun a w hB hfr hdep => Step.plain rfl (dMove (R := Bts ((sig).drop 32)) rfl (use (hfr 10 (by kernel_rfl)) ((Bts.stb _) _ _ _ hB ((Bts.stb _) _ _ _ hb7 ((Bts.stb _) _ _ _ hb6 h10_5))))),
      fun a w hB hfr hdep => Step.plain rfl (Does.call 27 #[(a.eval (.tmp 36)), (a.eval (.tmp 37))] (by kernel_rfl) (cMulP w w (TabV.below hT7 hB).1.t (hdep 0 36 (by kernel_rfl)) (hdep 1 37 (by kernel_rfl)) (Dig.drop hsig _) (by rw [List.length_drop]; omega))),
      fun a w hB hfr hdep => Step.plain rfl (dLoadPt x16_2 (block_below hB (lt_of_heap n7_2__7) n7_2__7) rfl (hfr 7 (by kernel_rfl)) (fun _ h => h)),
      fun a w hB hfr hdep => Step.plain rfl (dMove (R := Own u6.heap.size (digs 32 (numL ((sig).take 32 ++ pub ++ m)))) rfl (use (hfr 11 (by kernel_rfl)) ((Own.stb _ _) _ _ _ hB h11_7))),
      fun a w hB hfr hdep => Step.plain rfl (Does.call 27 #[(a.eval (.tmp 39)), (a.eval (.tmp 40))] (by kernel_rfl) (cMulP w w (TabV.below hT7 hB).1.t (hdep 3 39 (by kernel_rfl)) (Own.bts (hdep 4 40 (by kernel_rfl)) (by first | decide | (rw [digs_len]; omega) | (rw [SEED_len]; omega) | (unfold PUB; rw [digs_len]; omega) | simp)) (digs_dig _ _) (by first | decide | (rw [digs_len]; omega) | simp))),
      fun a w hB hfr hdep => Step.plain rfl (Does.call 29 #[(a.eval (.tmp 41))] (by kernel_rfl) (cNeg w w (hdep 5 41 (by kernel_rfl)))),
      fun a w hB hfr hdep => Step.plain rfl (Does.call 28 #[(a.eval (.tmp 38)), (a.eval (.tmp 42))] (by kernel_rfl) (cPAdd w w w (TabV.below hT7 hB).1.t (hdep 2 38 (by kernel_rfl)) (hdep 6 42 (by kernel_rfl)))),
      fun a w hB hfr hdep => Step.plain rfl (dAlloc29 hB.size rfl), trivial⟩
  intro u8 hb8
  simp only [List.take, List.drop, FinAll, Act.put, List.setIfInBounds_toArray, List.set_cons_succ, List.set_cons_zero]
  rintro v36_8 h36_8 v37_8 h37_8 v38_8 h38_8 v39_8 h39_8 v40_8 h40_8 v41_8 h41_8 v42_8 h42_8 _ ⟨e43_8, rfl, x43_8⟩ _ ⟨g12_8, rfl, l12_8, m12_8⟩
  refine wpList_store_row rfl 51 (.tmp 12) (.tmp 43) rfl _ (e43_8) rfl rfl 51 _ m12_8 (by rw [cellsP_size x43_8]; exact info29) (by rw [cellsP_size x43_8]; rfl) (cellsP_one x43_8) ?_
  have n12_8 := setRow_heap _ _ _ (e43_8) _ _ m12_8
  replace hb8 := setRow_below hb8 l12_8 (e43_8)
  generalize hw8_1 : u8.setRow g12_8 (e43_8) = u8_1 at n12_8 hb8  ⊢
  clear hw8_1 m12_8
  have hO8 := (hO7).trans (hb8.mono (hO7).size)
  have n7_2__8 := block_below hb8 (lt_of_heap n7_2__7) n7_2__7
  have lwn12_8 := Nat.le_trans (hO7).size l12_8
  have hT8 := TabV.below hT7 hb8
  refine hK8 _ _ ?_
  clear hK8 K8
  refine wp_seq_k fun KO4 hKO4 => ?_
  refine wp_seq_k fun K9 hK9 => ?_
  refine wp_plain_inv 5 (specs [Bts ((sig).take 32), PtV (((bp).nm (valD ((sig).drop 32))).add (((P).nm (valD (digs 32 (numL ((sig).take 32 ++ pub ++ m))))).neg)), Own u8_1.heap.size (digs 32 (Pt.enc (((bp).nm (valD ((sig).drop 32))).add (((P).nm (valD (digs 32 (numL ((sig).take 32 ++ pub ++ m))))).neg)))), Is (.bool false), Is (.bool true)]) (specs_stb ⟨Bts.stb _, PtV.stb _, Own.stb _ _, Is.stb _, Is.stb _, trivial⟩) (by kernel_rfl) ?_ ?_
  · refine ⟨fun a w hB hfr hdep => Step.plain rfl (dMove (R := Bts ((sig).take 32)) rfl (use (hfr 9 (by kernel_rfl)) ((Bts.stb _) _ _ _ hB ((Bts.stb _) _ _ _ hb8 ((Bts.stb _) _ _ _ hb7 ((Bts.stb _) _ _ _ hb6 h9_5)))))),
      fun a w hB hfr hdep => Step.plain rfl (dLoadPt x43_8 (block_below hB (lt_of_heap n12_8) n12_8) rfl (hfr 12 (by kernel_rfl)) (fun _ h => h)),
      fun a w hB hfr hdep => Step.plain rfl (Does.call 31 #[(a.eval (.tmp 45))] (by kernel_rfl) (ownLo hB.size (cPBytes w w (hdep 1 45 (by kernel_rfl))))),
      fun a w hB hfr hdep => Step.plain rfl (Does.call 30 #[(a.eval (.tmp 44)), (a.eval (.tmp 46))] (by kernel_rfl) (cEqualB hE w (hdep 0 44 (by kernel_rfl)) (Own.bts (hdep 2 46 (by kernel_rfl)) (by first | decide | (rw [digs_len]; omega) | (rw [SEED_len]; omega) | (unfold PUB; rw [digs_len]; omega) | simp)) (Dig.take hsig _) (digs_dig _ _))),
      fun a w hB hfr hdep => Step.plain rfl (Does.run _ (run_notO rfl (hdep 3 47 (by kernel_rfl))) rfl), trivial⟩
  intro u9 hb9
  simp only [List.take, List.drop, FinAll, Act.put, List.setIfInBounds_toArray, List.set_cons_succ, List.set_cons_zero]
  rintro v44_9 h44_9 v45_9 h45_9 v46_9 h46_9 _ rfl _ rfl
  have hO9 := (hO8).trans (hb9.mono (hO8).size)
  have n7_2__9 := block_below hb9 (lt_of_heap n7_2__8) n7_2__8
  have n12_8__9 := block_below hb9 (lt_of_heap n12_8) n12_8
  have hT9 := TabV.below hT8 hb9
  refine hK9 _ _ ?_
  clear hK9 K9
  refine wp_cond_true rfl ?_
  refine wp_seq_k fun K10 hK10 => ?_
  refine wp_plain_inv 1 (specs [Is (.int .i64 10)]) (specs_stb ⟨Is.stb _, trivial⟩) (by kernel_rfl) ?_ ?_
  · refine ⟨fun a w hB hfr hdep => Step.plain rfl (dAssign (R := Is (.int .i64 10)) rfl rfl), trivial⟩
  intro u10 hb10
  simp only [List.take, List.drop, FinAll, Act.put, List.setIfInBounds_toArray, List.set_cons_succ, List.set_cons_zero]
  rintro _ rfl
  have hO10 := (hO9).trans (hb10.mono (hO9).size)
  have n7_2__10 := block_below hb10 (lt_of_heap n7_2__9) n7_2__9
  have n12_8__10 := block_below hb10 (lt_of_heap n12_8__9) n12_8__9
  have hT10 := TabV.below hT9 hb10
  refine hK10 _ _ ?_
  clear hK10 K10
  refine wp_ret ?_
  simp only [Exit.then]
  refine bodyPost_ret (results_tmp rfl _ _ _) rfl ?_
  exact ⟨_, rfl, hO10, rfl⟩
theorem verOk {pub m sig : List Nat} {v1 v2 v3 : Value} (w : World) (hT : TabV w) (hp : Bts pub v1 w) (hm : Bts m v2 w) (hs : Bts sig v3 w) (hpub : Dig pub) (hmd : Dig m) (hsig : Dig sig) {P : Pt} (hP : P.enc = valD pub) (hp32 : pub.length = 32) (hs64 : sig.length = 64) (hml : m.length ≤ 50000) (hIs : isL ((sig).drop 32) = true) (hE : decide ((sig).take 32 = digs 32 (Pt.enc ((bp.nm (valD ((sig).drop 32))).add ((P.nm (valD (digs 32 (numL ((sig).take 32 ++ pub ++ m))))).neg)))) = true) : Ret 13 #[v1, v2, v3] w (Is (.int .i64 0)) := by
  unfold Ret
  have hO0 : Below w.heap.size w w := Below.refl _ _
  go_enter Tryd.func13, Tryd.ntmps13
  refine wp_seq_k fun K1 hK1 => ?_
  refine wp_plain_inv 1 (specs [Is (.int .i64 0)]) (specs_stb ⟨Is.stb _, trivial⟩) (by kernel_rfl) ?_ ?_
  · refine ⟨fun a w hB hfr hdep => Step.plain rfl (dAssign (R := Is (.int .i64 0)) rfl rfl), trivial⟩
  intro u1 hb1
  simp only [List.take, List.drop, FinAll, Act.put, List.setIfInBounds_toArray, List.set_cons_succ, List.set_cons_zero]
  rintro _ rfl
  have hO1 := (hO0).trans (hb1.mono (hO0).size)
  have hT1 := TabV.below hT hb1
  refine hK1 _ _ ?_
  clear hK1 K1
  refine wp_seq_k fun K2 hK2 => ?_
  refine wp_plain_inv 6 (specs [Bts (pub), Tup2 (PtV (P)) (Is (.int .i64 0)), Tup2 (PtV (P)) (Is (.int .i64 0)), PtV (P), Is (.int .i64 0), Box u1.heap.size (ptc zeroE zeroE zeroE zeroE) 51]) (specs_stb ⟨Bts.stb _, Tup2.stb (PtV.stb _) (Is.stb _), Tup2.stb (PtV.stb _) (Is.stb _), PtV.stb _, Is.stb _, Box.stb _ _ _, trivial⟩) (by kernel_rfl) ?_ ?_
  · refine ⟨fun a w hB hfr hdep => Step.plain rfl (dMove (R := Bts (pub)) rfl (use (hfr 0 (by kernel_rfl)) ((Bts.stb _) _ _ _ hB ((Bts.stb _) _ _ _ hb1 hp)))),
      fun a w hB hfr hdep => Step.plain rfl (Does.call 23 #[(a.eval (.tmp 14))] (by kernel_rfl) (cReadPt w (TabV.below hT1 hB).2 (hdep 0 14 (by kernel_rfl)) hp32 hpub hP)),
      fun a w hB hfr hdep => Step.plain rfl (dMove (R := Tup2 (PtV (P)) (Is (.int .i64 0))) rfl (hdep 1 15 (by kernel_rfl))),
      fun a w hB hfr hdep => Step.plain rfl (dExt0 rfl (hdep 2 13 (by kernel_rfl))),
      fun a w hB hfr hdep => Step.plain rfl (dExt1 rfl (hdep 2 13 (by kernel_rfl))),
      fun a w hB hfr hdep => Step.plain rfl (dAlloc29 hB.size rfl), trivial⟩
  intro u2 hb2
  simp only [List.take, List.drop, FinAll, Act.put, List.setIfInBounds_toArray, List.set_cons_succ, List.set_cons_zero]
  rintro v14_2 h14_2 v15_2 h15_2 v13_2 h13_2 _ ⟨e16_2, rfl, x16_2⟩ _ rfl _ ⟨g7_2, rfl, l7_2, m7_2⟩
  refine wpList_store_row rfl 51 (.tmp 7) (.tmp 16) rfl _ (e16_2) rfl rfl 51 _ m7_2 (by rw [cellsP_size x16_2]; exact info29) (by rw [cellsP_size x16_2]; rfl) (cellsP_one x16_2) ?_
  have n7_2 := setRow_heap _ _ _ (e16_2) _ _ m7_2
  replace hb2 := setRow_below hb2 l7_2 (e16_2)
  generalize hw2_1 : u2.setRow g7_2 (e16_2) = u2_1 at n7_2 hb2  ⊢
  clear hw2_1 m7_2
  refine wpList_assign rfl rfl rfl ?_
  simp only [Act.put, Act.eval, Array.getD_eq_getD_getElem?, List.getElem?_toArray, List.getElem?_cons_succ, List.getElem?_cons_zero, Option.getD_some, List.setIfInBounds_toArray, List.set_cons_succ, List.set_cons_zero]
  have hO2 := (hO1).trans (hb2.mono (hO1).size)
  have lwn7_2 := Nat.le_trans (hO1).size l7_2
  have hT2 := TabV.below hT1 hb2
  refine hK2 _ _ ?_
  clear hK2 K2
  refine wp_seq_k fun KO1 hKO1 => ?_
  refine wp_seq_k fun K3 hK3 => ?_
  refine wp_plain_inv 2 (specs [Is (.int .i64 0), Is (.bool false)]) (specs_stb ⟨Is.stb _, Is.stb _, trivial⟩) (by kernel_rfl) ?_ ?_
  · refine ⟨fun a w hB hfr hdep => Step.plain rfl (dMove (R := Is (.int .i64 0)) rfl (hfr 8 (by kernel_rfl))),
      fun a w hB hfr hdep => Step.plain rfl (Does.run _ (run_binO rfl (hdep 0 18 (by kernel_rfl)) rfl (by kernel_rfl)) rfl), trivial⟩
  intro u3 hb3
  simp only [List.take, List.drop, FinAll, Act.put, List.setIfInBounds_toArray, List.set_cons_succ, List.set_cons_zero]
  rintro _ rfl _ rfl
  have hO3 := (hO2).trans (hb3.mono (hO2).size)
  have n7_2__3 := block_below hb3 (lt_of_heap n7_2) n7_2
  have hT3 := TabV.below hT2 hb3
  refine hK3 _ _ ?_
  clear hK3 K3
  refine wp_cond_false rfl ?_
  refine wp_skip ?_
  refine hKO1 _ _ ?_
  clear hKO1 KO1
  refine wp_seq_k fun KO2 hKO2 => ?_
  refine wp_seq_k fun K4 hK4 => ?_
  refine wp_plain_inv 3 (specs [Bts (sig), Is (.int .i64 64), Is (.bool false)]) (specs_stb ⟨Bts.stb _, Is.stb _, Is.stb _, trivial⟩) (by kernel_rfl) ?_ ?_
  · refine ⟨fun a w hB hfr hdep => Step.plain rfl (dMove (R := Bts (sig)) rfl (use (hfr 2 (by kernel_rfl)) ((Bts.stb _) _ _ _ hB ((Bts.stb _) _ _ _ hb3 ((Bts.stb _) _ _ _ hb2 ((Bts.stb _) _ _ _ hb1 hs)))))),
      fun a w hB hfr hdep => Step.plain rfl (dLenB hs64 rfl (hdep 0 20 (by kernel_rfl))),
      fun a w hB hfr hdep => Step.plain rfl (Does.run _ (run_binO rfl (hdep 1 21 (by kernel_rfl)) rfl (by kernel_rfl)) rfl), trivial⟩
  intro u4 hb4
  simp only [List.take, List.drop, FinAll, Act.put, List.setIfInBounds_toArray, List.set_cons_succ, List.set_cons_zero]
  rintro v20_4 h20_4 _ rfl _ rfl
  have hO4 := (hO3).trans (hb4.mono (hO3).size)
  have n7_2__4 := block_below hb4 (lt_of_heap n7_2__3) n7_2__3
  have hT4 := TabV.below hT3 hb4
  refine hK4 _ _ ?_
  clear hK4 K4
  refine wp_cond_false rfl ?_
  refine wp_skip ?_
  refine hKO2 _ _ ?_
  clear hKO2 KO2
  refine wp_seq_k fun K5 hK5 => ?_
  refine wp_plain_inv 7 (specs [Bts (sig), Tup2 (Bts ((sig).take 32)) (Bts ((sig).drop 32)), Tup2 (Bts ((sig).take 32)) (Bts ((sig).drop 32)), Bts ((sig).take 32), Bts ((sig).drop 32), Bts ((sig).take 32), Bts ((sig).drop 32)]) (specs_stb ⟨Bts.stb _, Tup2.stb (Bts.stb _) (Bts.stb _), Tup2.stb (Bts.stb _) (Bts.stb _), Bts.stb _, Bts.stb _, Bts.stb _, Bts.stb _, trivial⟩) (by kernel_rfl) ?_ ?_
  · refine ⟨fun a w hB hfr hdep => Step.plain rfl (dMove (R := Bts (sig)) rfl (use (hfr 2 (by kernel_rfl)) ((Bts.stb _) _ _ _ hB ((Bts.stb _) _ _ _ hb4 ((Bts.stb _) _ _ _ hb3 ((Bts.stb _) _ _ _ hb2 ((Bts.stb _) _ _ _ hb1 hs))))))),
      fun a w hB hfr hdep => Step.plain rfl (Does.call 24 #[(a.eval (.tmp 24))] (by kernel_rfl) (cHalves w (hdep 0 24 (by kernel_rfl)) hs64)),
      fun a w hB hfr hdep => Step.plain rfl (dMove (R := Tup2 (Bts ((sig).take 32)) (Bts ((sig).drop 32))) rfl (hdep 1 25 (by kernel_rfl))),
      fun a w hB hfr hdep => Step.plain rfl (dExt0 rfl (hdep 2 23 (by kernel_rfl))),
      fun a w hB hfr hdep => Step.plain rfl (dExt1 rfl (hdep 2 23 (by kernel_rfl))),
      fun a w hB hfr hdep => Step.plain rfl (dAssign (R := Bts ((sig).take 32)) rfl (hdep 3 26 (by kernel_rfl))),
      fun a w hB hfr hdep => Step.plain rfl (dAssign (R := Bts ((sig).drop 32)) rfl (hdep 4 27 (by kernel_rfl))), trivial⟩
  intro u5 hb5
  simp only [List.take, List.drop, FinAll, Act.put, List.setIfInBounds_toArray, List.set_cons_succ, List.set_cons_zero]
  rintro v24_5 h24_5 v25_5 h25_5 v23_5 h23_5 v26_5 h26_5 v27_5 h27_5 v9_5 h9_5 v10_5 h10_5
  have hO5 := (hO4).trans (hb5.mono (hO4).size)
  have n7_2__5 := block_below hb5 (lt_of_heap n7_2__4) n7_2__4
  have hT5 := TabV.below hT4 hb5
  refine hK5 _ _ ?_
  clear hK5 K5
  refine wp_seq_k fun KO3 hKO3 => ?_
  refine wp_seq_k fun K6 hK6 => ?_
  refine wp_plain_inv 3 (specs [Bts ((sig).drop 32), Is (.bool true), Is (.bool false)]) (specs_stb ⟨Bts.stb _, Is.stb _, Is.stb _, trivial⟩) (by kernel_rfl) ?_ ?_
  · refine ⟨fun a w hB hfr hdep => Step.plain rfl (dMove (R := Bts ((sig).drop 32)) rfl (use (hfr 10 (by kernel_rfl)) ((Bts.stb _) _ _ _ hB h10_5))),
      fun a w hB hfr hdep => Step.plain rfl (Does.call 25 #[(a.eval (.tmp 28))] (by kernel_rfl) (cIsB hIs w (TabV.below hT5 hB).1 (hdep 0 28 (by kernel_rfl)) (Dig.drop hsig _))),
      fun a w hB hfr hdep => Step.plain rfl (Does.run _ (run_notO rfl (hdep 1 29 (by kernel_rfl))) rfl), trivial⟩
  intro u6 hb6
  simp only [List.take, List.drop, FinAll, Act.put, List.setIfInBounds_toArray, List.set_cons_succ, List.set_cons_zero]
  rintro v28_6 h28_6 _ rfl _ rfl
  have hO6 := (hO5).trans (hb6.mono (hO5).size)
  have n7_2__6 := block_below hb6 (lt_of_heap n7_2__5) n7_2__5
  have hT6 := TabV.below hT5 hb6
  refine hK6 _ _ ?_
  clear hK6 K6
  refine wp_cond_false rfl ?_
  refine wp_skip ?_
  refine hKO3 _ _ ?_
  clear hKO3 KO3
  refine wp_seq_k fun K7 hK7 => ?_
  refine wp_plain_inv 6 (specs [Bts ((sig).take 32), Bts (pub), Bts (m), Parts 3 ((sig).take 32) (pub) (m), Own u6.heap.size (digs 32 (numL ((sig).take 32 ++ pub ++ m))), Own u6.heap.size (digs 32 (numL ((sig).take 32 ++ pub ++ m)))]) (specs_stb ⟨Bts.stb _, Bts.stb _, Bts.stb _, Parts.stb _ _ _ _, Own.stb _ _, Own.stb _ _, trivial⟩) (by kernel_rfl) ?_ ?_
  · refine ⟨fun a w hB hfr hdep => Step.plain rfl (dMove (R := Bts ((sig).take 32)) rfl (use (hfr 9 (by kernel_rfl)) ((Bts.stb _) _ _ _ hB ((Bts.stb _) _ _ _ hb6 h9_5)))),
      fun a w hB hfr hdep => Step.plain rfl (dMove (R := Bts (pub)) rfl (use (hfr 0 (by kernel_rfl)) ((Bts.stb _) _ _ _ hB ((Bts.stb _) _ _ _ hb6 ((Bts.stb _) _ _ _ hb5 ((Bts.stb _) _ _ _ hb4 ((Bts.stb _) _ _ _ hb3 ((Bts.stb _) _ _ _ hb2 ((Bts.stb _) _ _ _ hb1 hp))))))))),
      fun a w hB hfr hdep => Step.plain rfl (dMove (R := Bts (m)) rfl (use (hfr 1 (by kernel_rfl)) ((Bts.stb _) _ _ _ hB ((Bts.stb _) _ _ _ hb6 ((Bts.stb _) _ _ _ hb5 ((Bts.stb _) _ _ _ hb4 ((Bts.stb _) _ _ _ hb3 ((Bts.stb _) _ _ _ hb2 ((Bts.stb _) _ _ _ hb1 hm))))))))),
      fun a w hB hfr hdep => Step.plain rfl (dParts3 rfl (hdep 0 31 (by kernel_rfl)) (hdep 1 32 (by kernel_rfl)) (hdep 2 33 (by kernel_rfl))),
      fun a w hB hfr hdep => Step.plain rfl (Does.call 16 #[(a.eval (.tmp 34))] (by kernel_rfl) (ownLo' hB.size (cNumber3 w (TabV.below hT6 hB).1 (hdep 3 34 (by kernel_rfl)) (Dig.take hsig _) hpub hmd (by rw [List.length_take]; omega) (by rw [List.length_take]; omega)))),
      fun a w hB hfr hdep => Step.plain rfl (dAssign (R := Own u6.heap.size (digs 32 (numL ((sig).take 32 ++ pub ++ m)))) rfl (hdep 4 35 (by kernel_rfl))), trivial⟩
  intro u7 hb7
  simp only [List.take, List.drop, FinAll, Act.put, List.setIfInBounds_toArray, List.set_cons_succ, List.set_cons_zero]
  rintro v31_7 h31_7 v32_7 h32_7 v33_7 h33_7 v34_7 h34_7 v35_7 h35_7 v11_7 h11_7
  have hO7 := (hO6).trans (hb7.mono (hO6).size)
  have n7_2__7 := block_below hb7 (lt_of_heap n7_2__6) n7_2__6
  have hT7 := TabV.below hT6 hb7
  refine hK7 _ _ ?_
  clear hK7 K7
  refine wp_seq_k fun K8 hK8 => ?_
  refine wp_region_inv 9 (specs [PtV (bp), Bts ((sig).drop 32), PtV ((bp).nm (valD ((sig).drop 32))), PtV (P), Own u6.heap.size (digs 32 (numL ((sig).take 32 ++ pub ++ m))), PtV ((P).nm (valD (digs 32 (numL ((sig).take 32 ++ pub ++ m))))), PtV (((P).nm (valD (digs 32 (numL ((sig).take 32 ++ pub ++ m))))).neg), PtV (((bp).nm (valD ((sig).drop 32))).add (((P).nm (valD (digs 32 (numL ((sig).take 32 ++ pub ++ m))))).neg)), Box u7.heap.size (ptc zeroE zeroE zeroE zeroE) 51]) (by kernel_rfl) (specs_stb ⟨PtV.stb _, Bts.stb _, PtV.stb _, PtV.stb _, Own.stb _ _, PtV.stb _, PtV.stb _, PtV.stb _, Box.stb _ _ _, trivial⟩) (by kernel_rfl) ?_ ?_
  · refine ⟨fun a w hB hfr hdep => Step.plain rfl (Does.call 26 #[] (by kernel_rfl) (cBase w (TabV.below hT7 hB).1.t)),
      fun a w hB hfr hdep => Step.plain rfl (dMove (R := Bts ((sig).drop 32)) rfl (use (hfr 10 (by kernel_rfl)) ((Bts.stb _) _ _ _ hB ((Bts.stb _) _ _ _ hb7 ((Bts.stb _) _ _ _ hb6 h10_5))))),
      fun a w hB hfr hdep => Step.plain rfl (Does.call 27 #[(a.eval (.tmp 36)), (a.eval (.tmp 37))] (by kernel_rfl) (cMulP w w (TabV.below hT7 hB).1.t (hdep 0 36 (by kernel_rfl)) (hdep 1 37 (by kernel_rfl)) (Dig.drop hsig _) (by rw [List.length_drop]; omega))),
      fun a w hB hfr hdep => Step.plain rfl (dLoadPt x16_2 (block_below hB (lt_of_heap n7_2__7) n7_2__7) rfl (hfr 7 (by kernel_rfl)) (fun _ h => h)),
      fun a w hB hfr hdep => Step.plain rfl (dMove (R := Own u6.heap.size (digs 32 (numL ((sig).take 32 ++ pub ++ m)))) rfl (use (hfr 11 (by kernel_rfl)) ((Own.stb _ _) _ _ _ hB h11_7))),
      fun a w hB hfr hdep => Step.plain rfl (Does.call 27 #[(a.eval (.tmp 39)), (a.eval (.tmp 40))] (by kernel_rfl) (cMulP w w (TabV.below hT7 hB).1.t (hdep 3 39 (by kernel_rfl)) (Own.bts (hdep 4 40 (by kernel_rfl)) (by first | decide | (rw [digs_len]; omega) | (rw [SEED_len]; omega) | (unfold PUB; rw [digs_len]; omega) | simp)) (digs_dig _ _) (by first | decide | (rw [digs_len]; omega) | simp))),
      fun a w hB hfr hdep => Step.plain rfl (Does.call 29 #[(a.eval (.tmp 41))] (by kernel_rfl) (cNeg w w (hdep 5 41 (by kernel_rfl)))),
      fun a w hB hfr hdep => Step.plain rfl (Does.call 28 #[(a.eval (.tmp 38)), (a.eval (.tmp 42))] (by kernel_rfl) (cPAdd w w w (TabV.below hT7 hB).1.t (hdep 2 38 (by kernel_rfl)) (hdep 6 42 (by kernel_rfl)))),
      fun a w hB hfr hdep => Step.plain rfl (dAlloc29 hB.size rfl), trivial⟩
  intro u8 hb8
  simp only [List.take, List.drop, FinAll, Act.put, List.setIfInBounds_toArray, List.set_cons_succ, List.set_cons_zero]
  rintro v36_8 h36_8 v37_8 h37_8 v38_8 h38_8 v39_8 h39_8 v40_8 h40_8 v41_8 h41_8 v42_8 h42_8 _ ⟨e43_8, rfl, x43_8⟩ _ ⟨g12_8, rfl, l12_8, m12_8⟩
  refine wpList_store_row rfl 51 (.tmp 12) (.tmp 43) rfl _ (e43_8) rfl rfl 51 _ m12_8 (by rw [cellsP_size x43_8]; exact info29) (by rw [cellsP_size x43_8]; rfl) (cellsP_one x43_8) ?_
  have n12_8 := setRow_heap _ _ _ (e43_8) _ _ m12_8
  replace hb8 := setRow_below hb8 l12_8 (e43_8)
  generalize hw8_1 : u8.setRow g12_8 (e43_8) = u8_1 at n12_8 hb8  ⊢
  clear hw8_1 m12_8
  have hO8 := (hO7).trans (hb8.mono (hO7).size)
  have n7_2__8 := block_below hb8 (lt_of_heap n7_2__7) n7_2__7
  have lwn12_8 := Nat.le_trans (hO7).size l12_8
  have hT8 := TabV.below hT7 hb8
  refine hK8 _ _ ?_
  clear hK8 K8
  refine wp_seq_k fun KO4 hKO4 => ?_
  refine wp_seq_k fun K9 hK9 => ?_
  refine wp_plain_inv 5 (specs [Bts ((sig).take 32), PtV (((bp).nm (valD ((sig).drop 32))).add (((P).nm (valD (digs 32 (numL ((sig).take 32 ++ pub ++ m))))).neg)), Own u8_1.heap.size (digs 32 (Pt.enc (((bp).nm (valD ((sig).drop 32))).add (((P).nm (valD (digs 32 (numL ((sig).take 32 ++ pub ++ m))))).neg)))), Is (.bool true), Is (.bool false)]) (specs_stb ⟨Bts.stb _, PtV.stb _, Own.stb _ _, Is.stb _, Is.stb _, trivial⟩) (by kernel_rfl) ?_ ?_
  · refine ⟨fun a w hB hfr hdep => Step.plain rfl (dMove (R := Bts ((sig).take 32)) rfl (use (hfr 9 (by kernel_rfl)) ((Bts.stb _) _ _ _ hB ((Bts.stb _) _ _ _ hb8 ((Bts.stb _) _ _ _ hb7 ((Bts.stb _) _ _ _ hb6 h9_5)))))),
      fun a w hB hfr hdep => Step.plain rfl (dLoadPt x43_8 (block_below hB (lt_of_heap n12_8) n12_8) rfl (hfr 12 (by kernel_rfl)) (fun _ h => h)),
      fun a w hB hfr hdep => Step.plain rfl (Does.call 31 #[(a.eval (.tmp 45))] (by kernel_rfl) (ownLo hB.size (cPBytes w w (hdep 1 45 (by kernel_rfl))))),
      fun a w hB hfr hdep => Step.plain rfl (Does.call 30 #[(a.eval (.tmp 44)), (a.eval (.tmp 46))] (by kernel_rfl) (cEqualB hE w (hdep 0 44 (by kernel_rfl)) (Own.bts (hdep 2 46 (by kernel_rfl)) (by first | decide | (rw [digs_len]; omega) | (rw [SEED_len]; omega) | (unfold PUB; rw [digs_len]; omega) | simp)) (Dig.take hsig _) (digs_dig _ _))),
      fun a w hB hfr hdep => Step.plain rfl (Does.run _ (run_notO rfl (hdep 3 47 (by kernel_rfl))) rfl), trivial⟩
  intro u9 hb9
  simp only [List.take, List.drop, FinAll, Act.put, List.setIfInBounds_toArray, List.set_cons_succ, List.set_cons_zero]
  rintro v44_9 h44_9 v45_9 h45_9 v46_9 h46_9 _ rfl _ rfl
  have hO9 := (hO8).trans (hb9.mono (hO8).size)
  have n7_2__9 := block_below hb9 (lt_of_heap n7_2__8) n7_2__8
  have n12_8__9 := block_below hb9 (lt_of_heap n12_8) n12_8
  have hT9 := TabV.below hT8 hb9
  refine hK9 _ _ ?_
  clear hK9 K9
  refine wp_cond_false rfl ?_
  refine wp_skip ?_
  refine hKO4 _ _ ?_
  clear hKO4 KO4
  refine wp_seq_k fun K10 hK10 => ?_
  refine wp_plain_inv 1 (specs [Is (.int .i64 0)]) (specs_stb ⟨Is.stb _, trivial⟩) (by kernel_rfl) ?_ ?_
  · refine ⟨fun a w hB hfr hdep => Step.plain rfl (dAssign (R := Is (.int .i64 0)) rfl rfl), trivial⟩
  intro u10 hb10
  simp only [List.take, List.drop, FinAll, Act.put, List.setIfInBounds_toArray, List.set_cons_succ, List.set_cons_zero]
  rintro _ rfl
  have hO10 := (hO9).trans (hb10.mono (hO9).size)
  have n7_2__10 := block_below hb10 (lt_of_heap n7_2__9) n7_2__9
  have n12_8__10 := block_below hb10 (lt_of_heap n12_8__9) n12_8__9
  have hT10 := TabV.below hT9 hb10
  refine hK10 _ _ ?_
  clear hK10 K10
  refine wp_ret ?_
  refine bodyPost_ret (results_tmp rfl _ _ _) rfl ?_
  exact ⟨_, rfl, hO10, rfl⟩
end Go.Proofs.YtabgihjffjlfiaaDoor
set_option linter.unusedVariables false
namespace Go.Proofs.YtabgihjffjlfiaaDoor
open Go.RowKit Go.Sort Go.BigFrame EN
set_option maxRecDepth 100000
set_option maxHeartbeats 2000000
def mids (l : List Nat) (k : Nat) : List Nat := l.take k ++ List.replicate (32 - k) 0
theorem mids_len {l : List Nat} {k : Nat} (h : k ≤ l.length) (h2 : k ≤ 32) : (mids l k).length = 32 := by
  unfold mids
  rw [List.length_append, List.length_take, List.length_replicate]; omega
theorem mids_step {l : List Nat} {k : Nat} (h : k < l.length) (h2 : k < 32) : (mids l k).set k (l.getD k 0) = mids l (k + 1) := by
  unfold mids
  rw [List.set_append_right _ _ (by rw [List.length_take]; omega), List.length_take, show k - min k l.length = 0 by omega, show 32 - k = (32 - (k + 1)) + 1 by omega, List.replicate_succ, List.set_cons_zero, List.take_add_one, List.append_assoc]
  rw [List.getD_eq_getElem?_getD, List.getElem?_eq_getElem h]; rfl
theorem mids_end {l : List Nat} {k : Nat} (h : k ≤ l.length) (h2 : k ≤ 32) (h3 : k = 32 ∨ k = l.length) : mids l k = SEED l := by
  unfold mids SEED
  rcases h3 with rfl | rfl
  · rw [show 32 - 32 = 32 - l.length by omega]
  · rw [List.take_of_length_le (Nat.le_refl _), List.take_of_length_le h2]
theorem SEED_len (l : List Nat) : (SEED l).length = 32 := by
  unfold SEED
  rw [List.length_append, List.length_take, List.length_replicate]; omega
theorem SEED_dig {l : List Nat} (h : Dig l) : Dig (SEED l) := by
  unfold SEED
  exact (h.take 32).app (dig_lt fun x hx => by rw [List.mem_replicate] at hx; omega)
theorem seed12 (a : Option Addr) (len cap : Nat) (l : List Nat) (w : World) (hlen : Hid (l.length = len)) (h1 : len ≤ cap) (h2 : cap ≤ 9223372036854775807) (hv : View w a l) :
    Calls Tryd.prog 12 #[.slice a len cap] w fun e w' => ∃ g, e = .returned (.slice (some ⟨g, 0, none⟩) 32 32) ∧ w.heap.size ≤ g ∧ Below w.heap.size w w' ∧ w'.heap[g]? = some (.cells (ints .u8 (SEED l)) 5 (0, 0)) := by
  have hmk := make32 w
  have h0 : (w.alloc (.cells (ints .u8 (digs 32 0)) 5)).heap[w.heap.size]? = some (.cells (ints .u8 (mids l 0)) 5 (0, 0)) := heap_alloc_new _ _
  have hB0 : Below w.heap.size w (w.alloc (.cells (ints .u8 (digs 32 0)) 5)) := below1 _ _
  go_enter Tryd.func12, Tryd.ntmps12
  go_wp2_with fail
  generalize w.alloc (.cells (ints .u8 (digs 32 0)) 5) = w0 at *
  go_loopw [4] (fun i wr => ∃ k : Nat, k ≤ 32 ∧ k ≤ len ∧ i = .int .i64 k ∧ Below w.heap.size w wr ∧ wr.heap[w.heap.size]? = some (.cells (ints .u8 (mids l k)) 5 (0, 0))) (fun i _ => 32 - (intOf i).toNat)
  case atStart => exact ⟨0, by omega, by omega, rfl, hB0, h0⟩
  case round =>
    obtain ⟨k, hk, hk2, rfl, hB, hrow⟩ := hrel
    clear hmk h0 hB0
    by_cases hlt : k < 32
    · by_cases hlt2 : k < len
      · obtain ⟨g, off, rfl, hb⟩ := hv (by rw [hlen.out]; omega)
        have hc := (hv.below hB)
        obtain ⟨g', off', e, hb'⟩ := hc (by rw [hlen.out]; omega)
        injection e with e; injection e with e1 e2; subst e1 e2
        have c0 := hb' k (by rw [hlen.out]; omega)
        have f0 := frozen_of_row _ w.heap.size k _ _ hrow
        have hset := set_ints hrow k (l.getD k 0)
        rw [mids_step (by rw [hlen.out]; omega) hlt] at hset
        have hB2 := hB.setCell (p := ⟨w.heap.size, k, none⟩) (Nat.le_refl _) (.int .u8 ((l.getD k 0 : Nat) : Int))
        have HS1 : Hid _ := hset
        have HB2 : Hid _ := hB2
        have hcc : wr.cell? ⟨w.heap.size, k, none⟩ = some (.int .u8 (((mids l k).getD k 0 : Nat) : Int)) := cell_ints hrow k (by rw [mids_len (by rw [hlen.out]; omega) hk]; omega)
        clear hset hB2 hb hb' hc
        generalize (l.getD k 0 : Nat) = x at *
        generalize ((mids l k).getD k 0 : Nat) = y at *
        go_wp2
        go_roundw
        case rel => exact ⟨k + 1, by omega, by omega, by go_num, HB2.out, HS1.out⟩
        case measure => simp [intOf]; omega
      · have hend := mids_end (l := l) (k := k) (by rw [hlen.out]; omega) hk (.inr (by rw [hlen.out]; omega))
        rw [hend] at hrow
        clear hend
        have hnl : ¬ ((k : Int) < (len : Int)) := by omega
        go_wp2_with fail
        go_ret
        exact ⟨_, rfl, Nat.le_refl _, hB, hrow⟩
    · obtain rfl : k = 32 := by omega
      have hend := mids_end (l := l) (k := 32) (by rw [hlen.out]; omega) hk (.inl rfl)
      rw [hend] at hrow
      clear hend
      go_wp2_with fail
      go_ret
      exact ⟨_, rfl, Nat.le_refl _, hB, hrow⟩
theorem cSeed {v : Value} {l : List Nat} (w : World) (h : Bts l v w) : Ret 12 #[v] w (Own w.heap.size (SEED l)) := by
  obtain ⟨a, cap, rfl, h1, h2, hv⟩ := h
  exact (seed12 a l.length cap l w rfl h1 h2 hv).mono fun e w' ⟨g, he, hg, hB, hr⟩ => ⟨_, he, hB, g, by rw [SEED_len], hg, hr⟩
end Go.Proofs.YtabgihjffjlfiaaDoor
set_option linter.unusedVariables false
namespace Go.Proofs.YtabgihjffjlfiaaDoor
open Go.RowKit Go.Sort Go.BigFrame EN
set_option maxRecDepth 100000
set_option maxHeartbeats 2000000
def LV : List Nat := [157, 97, 177, 157, 239, 253, 90, 96, 186, 132, 74, 244, 146, 236, 44, 196, 68, 73, 197, 105, 123, 50, 105, 25, 112, 59, 172, 3, 28, 174, 127, 96]
theorem SH_LV : SH LV = [53, 124, 131, 134, 79, 40, 51, 203, 66, 122, 46, 241, 192, 10, 1, 60, 253, 255, 39, 104, 217, 128, 192, 163, 165, 32, 240, 6, 144, 77, 233, 15, 155, 79, 10, 254, 40, 11, 116, 106, 119, 134, 132, 231, 84, 66, 80, 32, 87, 183, 71, 58, 3, 240, 143, 150, 245, 163, 142, 146, 135, 224, 31, 143] := by kernel_rfl
theorem PRE_LV : PRE LV = [155, 79, 10, 254, 40, 11, 116, 106, 119, 134, 132, 231, 84, 66, 80, 32, 87, 183, 71, 58, 3, 240, 143, 150, 245, 163, 142, 146, 135, 224, 31, 143] := by unfold PRE; rw [SH_LV]; rfl
theorem SH_PRE : SH (PRE LV ++ []) = [182, 177, 156, 216, 224, 66, 111, 89, 131, 250, 17, 45, 137, 161, 67, 170, 151, 218, 184, 188, 93, 235, 141, 91, 98, 83, 201, 40, 182, 82, 114, 244, 4, 64, 152, 194, 169, 144, 3, 156, 222, 91, 106, 72, 24, 223, 11, 251, 110, 64, 220, 93, 238, 84, 36, 128, 50, 150, 35, 35, 231, 1, 53, 45] := by rw [PRE_LV]; kernel_rfl
def aN : Nat := 36144925721603087658594284515452164870581325872720374094707712194495455132720
def rN : Nat := 2015312323900227545039973048451112962192803170366412514267238242679089760755
theorem SEC_LV : valD (SEC LV) = aN := by unfold SEC; rw [SH_LV]; kernel_rfl
theorem RN_LV : RN LV [] = rN := by unfold RN numL; rw [SH_PRE]; kernel_rfl
def chk (x y X Y Z T : Nat) : Bool := Nat.beq (x * Z % pp) (X % pp) && Nat.beq (y * Z % pp) (Y % pp)
theorem at_chk {n x y : Nat} (hn : n < 2 ^ 256) (h : qmul 256 n bxN byN 1 btN 0 1 1 0 (chk x y) = true) : (bp.nm n).x = fe x ∧ (bp.nm n).y = fe y := by
  obtain ⟨X, Y, Z, T, hr, e⟩ := qmul_spec (chk x y) 256 n hn bp_rep zero_rep
  rw [h] at e
  rw [Pt.zero_add] at hr
  have e' := e.symm
  unfold chk at e'
  rw [Bool.and_eq_true] at e'
  have e1 := fe_eq (Nat.eq_of_beq_eq_true e'.1)
  have e2 := fe_eq (Nat.eq_of_beq_eq_true e'.2)
  rw [fe_mul] at e1 e2
  obtain ⟨_, hZ, hx, hy, _⟩ := hr
  exact ⟨mul_cancel hZ (by rw [hx, e1]), mul_cancel hZ (by rw [hy, e2])⟩
def axN : Nat := 38815646466658113194383306759739515082307681141926459231621296960732224964046
def ayN : Nat := 11903303657706407974989296177215005343713679411332034699907763981919547054807
def sxN : Nat := 44370630452101398467924320556439323233869374150616132215183787387252341590058
def syN : Nat := 38448863731492799660668882834560725606410712239157980760146247592118262650597
theorem enc_of {p : Pt} {x y E : Nat} (h : p.x = fe x ∧ p.y = fe y) (h2 : y % pp + t255 * (x % pp % 2) = E) : p.enc = E := by
  unfold Pt.enc
  rw [h.1, h.2, fe_val, fe_val]; exact h2
theorem a_at : (bp.nm aN).x = fe axN ∧ (bp.nm aN).y = fe ayN := at_chk (by decide) (by kernel_rfl)
theorem r_at : (bp.nm rN).x = fe sxN ∧ (bp.nm rN).y = fe syN := at_chk (by decide) (by kernel_rfl)
theorem a_enc : (bp.nm aN).enc = 11903303657706407974989296177215005343713679411332034699907763981919547054807 := enc_of a_at (by decide)
theorem a_enc_d : digs 32 11903303657706407974989296177215005343713679411332034699907763981919547054807 = [215, 90, 152, 1, 130, 177, 10, 183, 213, 75, 254, 211, 201, 100, 7, 58, 14, 225, 114, 243, 218, 166, 35, 37, 175, 2, 26, 104, 247, 7, 81, 26] := by decide
theorem PUB_of {n E : Nat} {s : List Nat} (h : valD (SEC s) = n) (h2 : (bp.nm n).enc = E) : PUB s = digs 32 E := by unfold PUB PT; rw [h, h2]
theorem PUB_LV : PUB LV = [215, 90, 152, 1, 130, 177, 10, 183, 213, 75, 254, 211, 201, 100, 7, 58, 14, 225, 114, 243, 218, 166, 35, 37, 175, 2, 26, 104, 247, 7, 81, 26] := by
  rw [PUB_of SEC_LV a_enc, a_enc_d]
theorem r_enc : (bp.nm rN).enc = 38448863731492799660668882834560725606410712239157980760146247592118262650597 := enc_of r_at (by decide)
theorem r_enc_d : digs 32 38448863731492799660668882834560725606410712239157980760146247592118262650597 = [229, 86, 67, 0, 195, 96, 172, 114, 144, 134, 226, 204, 128, 110, 130, 138, 132, 135, 127, 30, 184, 229, 217, 116, 216, 115, 224, 101, 34, 73, 1, 85] := by decide
theorem RB_of {n E : Nat} {s m : List Nat} (h : RN s m = n) (h2 : (bp.nm n).enc = E) : RB s m = digs 32 E := by unfold RB; rw [h, h2]
theorem RB_LV : RB LV [] = [229, 86, 67, 0, 195, 96, 172, 114, 144, 134, 226, 204, 128, 110, 130, 138, 132, 135, 127, 30, 184, 229, 217, 116, 216, 115, 224, 101, 34, 73, 1, 85] := by
  rw [RB_of RN_LV r_enc, r_enc_d]
theorem SIG_LV (k : Nat) (hk : k < 32) : (SIG LV []).getD k 0 = (RB LV []).getD k 0 := by
  unfold SIG
  rw [List.getD_eq_getElem?_getD, List.getD_eq_getElem?_getD, List.getElem?_append_left (by unfold RB; rw [digs_len]; exact hk)]
theorem LV_dig : Dig LV := dig_lt (by decide)
end Go.Proofs.YtabgihjffjlfiaaDoor
