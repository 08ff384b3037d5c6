/-
  The walk of takeBlocks, at words of 32 bits.
-/
import Derived.Test.YtomfnkbghlpkeaaDoorC32
import Derived.StillTail
import Derived.StillTactics
import Derived.Deep.MidRow
set_option linter.unusedVariables false
namespace Go.Proofs.YtomfnkbghlpkeaaDoor
open Go.RowKit Go.Sort Go.BigFrame
theorem blockBytes32 (w : World) : Calls Tryd.prog 21 #[.agg shpA32] w fun e w' => e = .returned (.int .i64 64) ∧ Below w.heap.size w w' := by
  unfold shpA32
  go_enter Tryd.func21, Tryd.ntmps21
  go_wp2
  go_ret
  exact ⟨rfl, below1 _ _⟩
theorem sub_bytes {w : World} {b off : Nat} {bs : List Nat} (h : BytesAt w b off bs) (a n : Nat) (hn : a + n ≤ bs.length) : BytesAt w b (off + a) ((bs.drop a).take n) := by
  intro i hi
  have hi' : i < n := by simp at hi; omega
  rw [sub_getD bs a n i hi', Nat.add_assoc]
  exact h (a + i) (by omega)
set_option maxRecDepth 100000 in
set_option maxHeartbeats 2000000 in
theorem takeBlocks32_more (st : List Nat) (b off len cap : Nat) (bs ks : List Nat) (w : World) (hst : st.length = 8) (hsl : ∀ j, st.getD j 0 < 4294967296) (hlen0 : bs.length = len) (h64 : 64 ≤ len) (hb256 : ∀ j, bs.getD j 0 < 256) (hcap : len ≤ cap) (hcap2 : cap ≤ 9223372036854775807) (hlen9 : len ≤ 100000000000000)
    (hc : BytesAt w b off bs) (hkl : ks.length = 80) (hkb : ∀ j, ks.getD j 0 < 18446744073709551616) (hK : TabAt w 1 ks) :
    Calls Tryd.prog 22 #[.agg (ints .u32 st), .slice (some ⟨b, off, none⟩) len cap, .agg shpA32] w fun e w' => e = .returned (.agg (ints .u32 (blks sh32 ks st bs (len / 64)))) ∧ Below w.heap.size w w' := by
  have hlen : Hid (bs.length = len) := hlen0
  clear hlen0
  obtain ⟨sv, hsv⟩ : ∃ x, x = ints .u32 st := ⟨_, rfl⟩
  rw [← hsv]
  have HSV : Hid (sv = ints .u32 st) := hsv
  clear hsv
  have hbB : b < w.heap.size := block_lt_of_cell (hc 0 (by have := hlen.out; omega))
  have h1B : 1 < w.heap.size := block_lt_of_cell (hK 0 (by omega))
  have hBB := blockBytes32 (((w.alloc (.cells sv 40)).alloc (.cells shpA32 33)).alloc (.cells z8_32 40))
  unfold shpA32 at hBB ⊢
  go_enter Tryd.func22, Tryd.ntmps22
  go_wp2_with fail
  refine hBB.mono ?_
  rintro e w1 ⟨rfl, hb1⟩
  have hR1 := (RelC32.start w sv).on hb1
  clear hBB hb1
  go_wp2_with fail
  go_loopw [8] (fun i wr => ∃ m : Nat, m ≤ len ∧ m % 64 = 0 ∧ i = .int .i64 (m : Int) ∧ RelC32 w (ints .u32 (blks sh32 ks st bs (m / 64))) wr) (fun i _ => len - (intOf i).toNat)
  case atStart => exact ⟨0, by omega, by omega, rfl, by rw [show blks sh32 ks st bs (0 / 64) = st from rfl, ← HSV.out]; exact hR1⟩
  case round =>
    obtain ⟨m, hk, hm, rfl, hR⟩ := hrel
    have HM : Hid (m % 64 = 0) := hm
    clear hm
    by_cases hlt : m + 64 ≤ len
    · obtain ⟨cs, hcs⟩ : ∃ x, x = ints .u32 (blks sh32 ks st bs (m / 64)) := ⟨_, rfl⟩
      rw [← hcs] at hR
      have HCS : Hid (cs = ints .u32 (blks sh32 ks st bs (m / 64))) := hcs
      have hcl : cs.size = 8 := by rw [hcs, ints_size, blks_len _ _ _ _ hst]
      clear hcs
      have h8 : (Tryd.prog.info? 40).map (·.size) = some 8 := by kernel_rfl
      have h14 : (Tryd.prog.info? 33).map (·.size) = some shpA32.size := by kernel_rfl
      have hr0 : wr.drew.heap[w.heap.size]? = some (.cells cs 40 (0, 0)) := hR.2.1
      have hr1 : wr.drew.heap[w.heap.size + 1]? = some (.cells shpA32 33 (0, 0)) := hR.2.2.1
      go_wp2_with fail
      have a1 : IntKind.i64.wrap (↑m + 64) = ↑m + 64 := by simp [IntKind.wrap, IntKind.bits, IntKind.signed]; omega
      have a2 : (0 : Int) ≤ ↑m + 64 := by omega
      have a3 : (↑m + 64 : Int) ≤ ↑cap := by omega
      have a4 : ¬ cap = m := by omega
      have a5 : m ≤ ((m : Int) + 64).toNat := by omega
      have a6 : ((m : Int) + 64).toNat - m = 64 := by omega
      refine wp_region_still_tail 8 (by kernel_rfl) (by kernel_rfl) ?_
      simp only [List.take_succ_cons, List.take_zero, List.drop_succ_cons, List.drop_zero]
      show wpStill _ _ wr.drew (fun a' => wpList _ _ _ _ a' wr.drew) _ _
      refine wpStill_load_row rfl 40 (.tmp 3) rfl _ rfl 40 cs (0, 0) _ hr0 Tryd.underlying40 rfl (by rw [hcl]; exact h8) ?_
      simp only [Act.put, List.setIfInBounds_toArray, List.set_cons_succ, List.set_cons_zero]
      iterate 6 still_step
      refine wpStill_load_row rfl 33 (.tmp 5) rfl _ rfl 33 shpA32 (0, 0) _ hr1 Tryd.underlying33 rfl h14 ?_
      simp only [Act.put, List.setIfInBounds_toArray, List.set_cons_succ, List.set_cons_zero]
      refine wpStill_nil ?_
      have hTw : Below w.heap.size w wr.drew := hR.1.drew
      have hT := takeBlock32 (blks sh32 ks st bs (m / 64)) b (off + m) (cap - m) ((bs.drop m).take 64) ks wr.drew (blks_len _ _ _ _ hst _) (blks_lt sh32 _ _ _ hsl _) (by have := hlen.out; simp; omega) (sub_lt _ _ _ hb256) (by omega) (by unfold maxLen; omega)
        (sub_bytes (hc.below hTw hbB) m 64 (by have := hlen.out; omega)) hkl hkb (hK.below hTw h1B)
      rw [← HCS.out] at hT
      obtain ⟨nv, hnv⟩ : ∃ x, x = ints .u32 (blk sh32 ks (blks sh32 ks st bs (m / 64)) ((bs.drop m).take 64)) := ⟨_, rfl⟩
      rw [← hnv] at hT
      have hnl : nv.size = 8 := by rw [hnv, ints_size, blk_len _ _ _ _ (blks_len _ _ _ _ hst _)]
      have hn1 : nv.all (·.oneCell') = true := by rw [hnv]; exact ints_one _ _
      have HN : Hid (nv = ints .u32 (blks sh32 ks st bs ((m + 64) / 64))) := by
        show nv = _
        rw [hnv, show (m + 64) / 64 = m / 64 + 1 by omega]
        show ints .u32 (blk _ _ _ _) = ints .u32 (blk _ _ _ ((bs.drop (2 * 32 * (m / 64))).take (2 * 32)))
        rw [show 2 * 32 * (m / 64) = m by have := HM.out; omega]
      clear hnv
      go_wp2_with fail
      refine hT.mono ?_
      rintro e w2 ⟨rfl, hb2⟩
      have hR2 : RelC32 w cs w2 := RelC32.on (wr := wr.drew) ⟨hR.1.drew, hR.2.1, hR.2.2.1, hR.2.2.2⟩ hb2
      have hr2 := hR2.2.1
      clear hT hb2 hr0 hr1
      go_wp2_with (refine wpList_store_row rfl 40 (.tmp 3) (.tmp 28) rfl _ nv rfl rfl 40 _ hr2 (by rw [hnl]; exact h8) (by rw [hnl]; exact hcl) hn1 ?_)
      go_roundw
      case rel => exact ⟨m + 64, by omega, by have := HM.out; omega, by go_num, by rw [← HN.out]; exact hR2.setRow0 nv⟩
      case measure => simp [intOf]; omega
    · obtain ⟨rv, hrv⟩ : ∃ x, x = ints .u32 (blks sh32 ks st bs (len / 64)) := ⟨_, rfl⟩
      rw [show m / 64 = len / 64 by have := HM.out; omega, ← hrv] at hR
      have hrl : rv.size = 8 := by rw [hrv, ints_size, blks_len _ _ _ _ hst]
      have hr1 : rv.all (·.oneCell') = true := by rw [hrv]; exact ints_one _ _
      have h5 := hR.2.1
      have h4 := hR.2.2.2
      have h8 : (Tryd.prog.info? 40).map (·.size) = some 8 := by kernel_rfl
      have hzl : z8_32.size = 8 := rfl
      go_wp2_with (first
        | (refine wpList_load_row rfl 40 (.tmp 3) rfl _ rfl 40 rv (0, 0) _ h5 Tryd.underlying40 rfl (by rw [hrl]; exact h8) ?_)
        | (refine wpList_store_row rfl 40 (.tmp 6) (.tmp 29) rfl _ rv rfl rfl 40 _ h4 (by rw [hrl]; exact h8) (by rw [hrl]; exact hzl) hr1 ?_))
      refine bodyPost_ret (v := .agg rv) ?_ rfl ⟨by rw [hrv], setRow_below hR.1 (by omega) _⟩
      exact results_cell_row Tryd.results22 _ _ _ 40 rv (0, 0) _ rfl (setRow_heap _ _ _ _ _ _ h4) Tryd.underlying40 rfl (by rw [hrl]; exact h8)
set_option maxRecDepth 100000 in
set_option maxHeartbeats 2000000 in
theorem takeBlocks32_none (st : List Nat) (a : Option Addr) (len cap : Nat) (w : World) (hst : st.length = 8) (h64 : len < 64) :
    Calls Tryd.prog 22 #[.agg (ints .u32 st), .slice a len cap, .agg shpA32] w fun e w' => e = .returned (.agg (ints .u32 st)) ∧ Below w.heap.size w w' := by
  obtain ⟨rv, hrv⟩ : ∃ x, x = ints .u32 st := ⟨_, rfl⟩
  rw [← hrv]
  have hrl : rv.size = 8 := by rw [hrv, ints_size, hst]
  have hr1 : rv.all (·.oneCell') = true := by rw [hrv]; exact ints_one _ _
  clear hrv
  have h8 : (Tryd.prog.info? 40).map (·.size) = some 8 := by kernel_rfl
  have hzl : z8_32.size = 8 := rfl
  have hBB := blockBytes32 (((w.alloc (.cells rv 40)).alloc (.cells shpA32 33)).alloc (.cells z8_32 40))
  unfold shpA32 at hBB ⊢
  go_enter Tryd.func22, Tryd.ntmps22
  go_wp2_with fail
  refine hBB.mono ?_
  rintro e w1 ⟨rfl, hb1⟩
  have hR := (RelC32.start w rv).on hb1
  clear hBB hb1
  have h5 := hR.2.1
  have h4 := hR.2.2.2
  go_wp2_with fail
  refine wp_loop_rounds 1 ?_
  rw [rounds_succ]
  go_wp2_with (first
    | (refine wpList_load_row rfl 40 (.tmp 3) rfl _ rfl 40 rv (0, 0) _ h5 Tryd.underlying40 rfl (by rw [hrl]; exact h8) ?_)
    | (refine wpList_store_row rfl 40 (.tmp 6) (.tmp 29) rfl _ rv rfl rfl 40 _ h4 (by rw [hrl]; exact h8) (by rw [hrl]; exact hzl) hr1 ?_))
  refine bodyPost_ret (v := .agg rv) ?_ rfl ⟨rfl, setRow_below hR.1 (by omega) _⟩
  exact results_cell_row Tryd.results22 _ _ _ 40 rv (0, 0) _ rfl (setRow_heap _ _ _ _ _ _ h4) Tryd.underlying40 rfl (by rw [hrl]; exact h8)
end Go.Proofs.YtomfnkbghlpkeaaDoor
