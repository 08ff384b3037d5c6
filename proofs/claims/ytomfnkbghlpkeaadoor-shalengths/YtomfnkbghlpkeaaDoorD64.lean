/-
  The walk of takeBlocks, at words of 64 bits.
-/
import Derived.Test.YtomfnkbghlpkeaaDoorC64
import Derived.StillTail
import Derived.StillTactics
import Derived.Deep.MidRow
set_option linter.unusedVariables false
namespace Go.Proofs.YtomfnkbghlpkeaaDoor
open Go.RowKit Go.Sort Go.BigFrame
theorem blockBytes64 (w : World) : Calls Tryd.prog 21 #[.agg shpA64] w fun e w' => e = .returned (.int .i64 128) ∧ Below w.heap.size w w' := by
  unfold shpA64
  go_enter Tryd.func21, Tryd.ntmps21
  go_wp2
  go_ret
  exact ⟨rfl, below1 _ _⟩
set_option maxRecDepth 100000 in
set_option maxHeartbeats 2000000 in
theorem takeBlocks64_more (st : List Nat) (b off len cap : Nat) (bs ks : List Nat) (w : World) (hst : st.length = 8) (hsl : ∀ j, st.getD j 0 < 18446744073709551616) (hlen0 : bs.length = len) (h64 : 128 ≤ len) (hb256 : ∀ j, bs.getD j 0 < 256) (hcap : len ≤ cap) (hcap2 : cap ≤ 9223372036854775807) (hlen9 : len ≤ 100000000000000)
    (hc : BytesAt w b off bs) (hkl : ks.length = 80) (hkb : ∀ j, ks.getD j 0 < 18446744073709551616) (hK : TabAt w 1 ks) :
    Calls Tryd.prog 30 #[.agg (ints .u64 st), .slice (some ⟨b, off, none⟩) len cap, .agg shpA64] w fun e w' => e = .returned (.agg (ints .u64 (blks sh64 ks st bs (len / 128)))) ∧ Below w.heap.size w w' := by
  have hlen : Hid (bs.length = len) := hlen0
  clear hlen0
  obtain ⟨sv, hsv⟩ : ∃ x, x = ints .u64 st := ⟨_, rfl⟩
  rw [← hsv]
  have HSV : Hid (sv = ints .u64 st) := hsv
  clear hsv
  have hbB : b < w.heap.size := block_lt_of_cell (hc 0 (by have := hlen.out; omega))
  have h1B : 1 < w.heap.size := block_lt_of_cell (hK 0 (by omega))
  have hBB := blockBytes64 (((w.alloc (.cells sv 41)).alloc (.cells shpA64 33)).alloc (.cells z8_64 41))
  unfold shpA64 at hBB ⊢
  go_enter Tryd.func30, Tryd.ntmps30
  go_wp2_with fail
  refine hBB.mono ?_
  rintro e w1 ⟨rfl, hb1⟩
  have hR1 := (RelC64.start w sv).on hb1
  clear hBB hb1
  go_wp2_with fail
  go_loopw [8] (fun i wr => ∃ m : Nat, m ≤ len ∧ m % 128 = 0 ∧ i = .int .i64 (m : Int) ∧ RelC64 w (ints .u64 (blks sh64 ks st bs (m / 128))) wr) (fun i _ => len - (intOf i).toNat)
  case atStart => exact ⟨0, by omega, by omega, rfl, by rw [show blks sh64 ks st bs (0 / 128) = st from rfl, ← HSV.out]; exact hR1⟩
  case round =>
    obtain ⟨m, hk, hm, rfl, hR⟩ := hrel
    have HM : Hid (m % 128 = 0) := hm
    clear hm
    by_cases hlt : m + 128 ≤ len
    · obtain ⟨cs, hcs⟩ : ∃ x, x = ints .u64 (blks sh64 ks st bs (m / 128)) := ⟨_, rfl⟩
      rw [← hcs] at hR
      have HCS : Hid (cs = ints .u64 (blks sh64 ks st bs (m / 128))) := hcs
      have hcl : cs.size = 8 := by rw [hcs, ints_size, blks_len _ _ _ _ hst]
      clear hcs
      have h8 : (Tryd.prog.info? 41).map (·.size) = some 8 := by kernel_rfl
      have h14 : (Tryd.prog.info? 33).map (·.size) = some shpA64.size := by kernel_rfl
      have hr0 : wr.drew.heap[w.heap.size]? = some (.cells cs 41 (0, 0)) := hR.2.1
      have hr1 : wr.drew.heap[w.heap.size + 1]? = some (.cells shpA64 33 (0, 0)) := hR.2.2.1
      go_wp2_with fail
      have a1 : IntKind.i64.wrap (↑m + 128) = ↑m + 128 := by simp [IntKind.wrap, IntKind.bits, IntKind.signed]; omega
      have a2 : (0 : Int) ≤ ↑m + 128 := by omega
      have a3 : (↑m + 128 : Int) ≤ ↑cap := by omega
      have a4 : ¬ cap = m := by omega
      have a5 : m ≤ ((m : Int) + 128).toNat := by omega
      have a6 : ((m : Int) + 128).toNat - m = 128 := by omega
      refine wp_region_still_tail 8 (by kernel_rfl) (by kernel_rfl) ?_
      simp only [List.take_succ_cons, List.take_zero, List.drop_succ_cons, List.drop_zero]
      show wpStill _ _ wr.drew (fun a' => wpList _ _ _ _ a' wr.drew) _ _
      refine wpStill_load_row rfl 41 (.tmp 3) rfl _ rfl 41 cs (0, 0) _ hr0 Tryd.underlying41 rfl (by rw [hcl]; exact h8) ?_
      simp only [Act.put, List.setIfInBounds_toArray, List.set_cons_succ, List.set_cons_zero]
      iterate 6 still_step
      refine wpStill_load_row rfl 33 (.tmp 5) rfl _ rfl 33 shpA64 (0, 0) _ hr1 Tryd.underlying33 rfl h14 ?_
      simp only [Act.put, List.setIfInBounds_toArray, List.set_cons_succ, List.set_cons_zero]
      refine wpStill_nil ?_
      have hTw : Below w.heap.size w wr.drew := hR.1.drew
      have hT := takeBlock64 (blks sh64 ks st bs (m / 128)) b (off + m) (cap - m) ((bs.drop m).take 128) ks wr.drew (blks_len _ _ _ _ hst _) (blks_lt sh64 _ _ _ hsl _) (by have := hlen.out; simp; omega) (sub_lt _ _ _ hb256) (by omega) (by unfold maxLen; omega)
        (sub_bytes (hc.below hTw hbB) m 128 (by have := hlen.out; omega)) hkl hkb (hK.below hTw h1B)
      rw [← HCS.out] at hT
      obtain ⟨nv, hnv⟩ : ∃ x, x = ints .u64 (blk sh64 ks (blks sh64 ks st bs (m / 128)) ((bs.drop m).take 128)) := ⟨_, rfl⟩
      rw [← hnv] at hT
      have hnl : nv.size = 8 := by rw [hnv, ints_size, blk_len _ _ _ _ (blks_len _ _ _ _ hst _)]
      have hn1 : nv.all (·.oneCell') = true := by rw [hnv]; exact ints_one _ _
      have HN : Hid (nv = ints .u64 (blks sh64 ks st bs ((m + 128) / 128))) := by
        show nv = _
        rw [hnv, show (m + 128) / 128 = m / 128 + 1 by omega]
        show ints .u64 (blk _ _ _ _) = ints .u64 (blk _ _ _ ((bs.drop (2 * 64 * (m / 128))).take (2 * 64)))
        rw [show 2 * 64 * (m / 128) = m by have := HM.out; omega]
      clear hnv
      go_wp2_with fail
      refine hT.mono ?_
      rintro e w2 ⟨rfl, hb2⟩
      have hR2 : RelC64 w cs w2 := RelC64.on (wr := wr.drew) ⟨hR.1.drew, hR.2.1, hR.2.2.1, hR.2.2.2⟩ hb2
      have hr2 := hR2.2.1
      clear hT hb2 hr0 hr1
      go_wp2_with (refine wpList_store_row rfl 41 (.tmp 3) (.tmp 28) rfl _ nv rfl rfl 41 _ hr2 (by rw [hnl]; exact h8) (by rw [hnl]; exact hcl) hn1 ?_)
      go_roundw
      case rel => exact ⟨m + 128, by omega, by have := HM.out; omega, by go_num, by rw [← HN.out]; exact hR2.setRow0 nv⟩
      case measure => simp [intOf]; omega
    · obtain ⟨rv, hrv⟩ : ∃ x, x = ints .u64 (blks sh64 ks st bs (len / 128)) := ⟨_, rfl⟩
      rw [show m / 128 = len / 128 by have := HM.out; omega, ← hrv] at hR
      have hrl : rv.size = 8 := by rw [hrv, ints_size, blks_len _ _ _ _ hst]
      have hr1 : rv.all (·.oneCell') = true := by rw [hrv]; exact ints_one _ _
      have h5 := hR.2.1
      have h4 := hR.2.2.2
      have h8 : (Tryd.prog.info? 41).map (·.size) = some 8 := by kernel_rfl
      have hzl : z8_64.size = 8 := rfl
      go_wp2_with (first
        | (refine wpList_load_row rfl 41 (.tmp 3) rfl _ rfl 41 rv (0, 0) _ h5 Tryd.underlying41 rfl (by rw [hrl]; exact h8) ?_)
        | (refine wpList_store_row rfl 41 (.tmp 6) (.tmp 29) rfl _ rv rfl rfl 41 _ h4 (by rw [hrl]; exact h8) (by rw [hrl]; exact hzl) hr1 ?_))
      refine bodyPost_ret (v := .agg rv) ?_ rfl ⟨by rw [hrv], setRow_below hR.1 (by omega) _⟩
      exact results_cell_row Tryd.results30 _ _ _ 41 rv (0, 0) _ rfl (setRow_heap _ _ _ _ _ _ h4) Tryd.underlying41 rfl (by rw [hrl]; exact h8)
set_option maxRecDepth 100000 in
set_option maxHeartbeats 2000000 in
theorem takeBlocks64_none (st : List Nat) (a : Option Addr) (len cap : Nat) (w : World) (hst : st.length = 8) (h64 : len < 128) :
    Calls Tryd.prog 30 #[.agg (ints .u64 st), .slice a len cap, .agg shpA64] w fun e w' => e = .returned (.agg (ints .u64 st)) ∧ Below w.heap.size w w' := by
  obtain ⟨rv, hrv⟩ : ∃ x, x = ints .u64 st := ⟨_, rfl⟩
  rw [← hrv]
  have hrl : rv.size = 8 := by rw [hrv, ints_size, hst]
  have hr1 : rv.all (·.oneCell') = true := by rw [hrv]; exact ints_one _ _
  clear hrv
  have h8 : (Tryd.prog.info? 41).map (·.size) = some 8 := by kernel_rfl
  have hzl : z8_64.size = 8 := rfl
  have hBB := blockBytes64 (((w.alloc (.cells rv 41)).alloc (.cells shpA64 33)).alloc (.cells z8_64 41))
  unfold shpA64 at hBB ⊢
  go_enter Tryd.func30, Tryd.ntmps30
  go_wp2_with fail
  refine hBB.mono ?_
  rintro e w1 ⟨rfl, hb1⟩
  have hR := (RelC64.start w rv).on hb1
  clear hBB hb1
  have h5 := hR.2.1
  have h4 := hR.2.2.2
  go_wp2_with fail
  refine wp_loop_rounds 1 ?_
  rw [rounds_succ]
  go_wp2_with (first
    | (refine wpList_load_row rfl 41 (.tmp 3) rfl _ rfl 41 rv (0, 0) _ h5 Tryd.underlying41 rfl (by rw [hrl]; exact h8) ?_)
    | (refine wpList_store_row rfl 41 (.tmp 6) (.tmp 29) rfl _ rv rfl rfl 41 _ h4 (by rw [hrl]; exact h8) (by rw [hrl]; exact hzl) hr1 ?_))
  refine bodyPost_ret (v := .agg rv) ?_ rfl ⟨rfl, setRow_below hR.1 (by omega) _⟩
  exact results_cell_row Tryd.results30 _ _ _ 41 rv (0, 0) _ rfl (setRow_heap _ _ _ _ _ _ h4) Tryd.underlying41 rfl (by rw [hrl]; exact h8)
end Go.Proofs.YtomfnkbghlpkeaaDoor
